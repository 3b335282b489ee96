/-
  The first item of cells.
  Lists of items: five cells each; lists that can be read, lists that are owned.
  ParseCells of the program: the items of cells, by whatever tags the table holds.
-/
import Derived.Test.YtllhcdkbgknjdaaDoorOP6
import Derived.Deep.RegionWith
namespace Go.Proofs.YtllhcdkbgknjdaaDoor
open Go.RowKit Go

theorem number_exact (tg : Nat → Nat) (k n : Int) (hx : Bool) (h : numK k = true) (w : World) (hcs : TabsT tg w) : Calls Tryd.prog 127 #[.agg #[.int .i64 k, .int .i32 n, .bool hx]] w (NewN w (numT n hx (tg k.toNat) (longOf k))) := by
  have h := of_decide_eq_true h
  by_cases hw : n < -67108864 ∨ 67108863 < n
  · rw [numT_wide hw]
    exact wide_exact k n hx hw w
  · rw [numT_narrow (by omega) (by omega)]
    exact narrow_exact tg k n hx (by omega) (by omega) (by omega) (by omega) w hcs

theorem unpacked_len (ls : List Nat) : (unpacked ls).length ≤ 672 := by
  unfold unpacked
  split
  · rename_i h
    have h1 := unpAll_len ls
    have h2 : ls.length ≤ 24 := by
      unfold fieldsOk at h
      rw [Bool.and_eq_true] at h
      exact (of_decide_eq_true h.1).1
    omega
  · exact Nat.zero_le _
/-- What guess makes has one of four shapes. -/
def GuessIs (xs : List Nat) : Prop :=
  (∃ k nm c, guessC xs = (⟨k, nm, 0, false, 0⟩, c) ∧ wordK k = true ∧ nm.size ≤ 672) ∨
  (∃ k n hx c, guessC xs = (⟨k, noText, n, hx, 0⟩, c) ∧ numK k = true ∧ -2147483648 ≤ n ∧ n ≤ 2147483647) ∨
  (∃ nm n c, guessC xs = (⟨9, nm, n, false, 0⟩, c) ∧ nm.size ≤ 672 ∧ -2147483648 ≤ n ∧ n ≤ 2147483647) ∨
  (guessC xs = (rawIt (xs.getD 0 0), 1))
theorem guess_is {xs : List Nat} (hx : ∀ c ∈ xs, c < 4294967296) : GuessIs xs := by
  have hg : ∀ i, xs.getD i 0 < 4294967296 := by
    intro i
    rw [List.getD_eq_getElem?_getD]
    rcases Nat.lt_or_ge i xs.length with h | h
    · rw [List.getElem?_eq_getElem h]; exact hx _ (List.getElem_mem h)
    · rw [List.getElem?_eq_none h]; decide
  have s0 := sgn_in (hg 0)
  have s1 := sgn_in (hg 1)
  unfold GuessIs
  obtain ⟨p, hp⟩ : ∃ p, guessC xs = p := ⟨_, rfl⟩
  rw [hp]
  unfold guessC at hp
  dsimp only at hp
  split at hp
  · rename_i hk
    have hw := (kindT_tag hk).2.1
    have hw2 := kindT_le (xs.getD 0 0 % 16)
    exact .inl ⟨_, _, _, hp.symm, decide_eq_true ⟨hw, hw2⟩, unpacked_len _⟩
  · split at hp
    · exact .inr (.inl ⟨_, _, _, _, hp.symm, by decide, by omega, by omega⟩)
    · split at hp
      · exact .inr (.inl ⟨_, _, _, _, hp.symm, by decide, by omega, by omega⟩)
      · split at hp
        · exact .inr (.inl ⟨_, _, _, _, hp.symm, by decide, s1.1, s1.2⟩)
        · split at hp
          · exact .inr (.inl ⟨_, _, _, _, hp.symm, by decide, s1.1, s1.2⟩)
          · split at hp
            · exact .inr (.inr (.inl ⟨_, _, _, hp.symm, Nat.le_trans (unpOne_len _) (by decide), s1.1, s1.2⟩))
            · exact .inr (.inr (.inr hp.symm))
/-- What firstItem answers. -/
def FirstEnd (C : It → List Nat) (w : World) (xs : List Nat) (e : Ending) (w' : World) : Prop := e = .returned (.tuple #[itVal (firstC C xs).1, .int .i64 ((firstC C xs).2 : Int)]) ∧ Below w.heap.size w w'
theorem firstC_yes {C : It → List Nat} {xs : List Nat} {g : It} {c : Nat} (hg : guessC xs = (g, c)) (h1 : c ≤ xs.length) (h2 : C g = xs.take c) : firstC C xs = (g, c) := by
  unfold firstC
  rw [hg, if_pos ⟨h1, h2⟩]
theorem firstC_no {C : It → List Nat} {xs : List Nat} {g : It} {c : Nat} (hg : guessC xs = (g, c)) (h : ¬ (c ≤ xs.length ∧ C g = xs.take c)) : firstC C xs = (rawIt (xs.getD 0 0), 1) := by
  unfold firstC
  rw [hg, if_neg h]
theorem two_below {w w1 : World} {cs : Array Value} {t : TypeId} (hb : Below (w.alloc (.cells cs t)).heap.size (w.alloc (.cells cs t)) w1) : Blk w1 w.heap.size t cs ∧ Below w.heap.size w w1 ∧ w.heap.size < w1.heap.size := by
  have e : (w.alloc (.cells cs t)).heap.size = w.heap.size + 1 := by simp
  refine ⟨(Blk.new w t cs).below hb (by rw [e]; omega), ((Below.refl _ _).alloc (Nat.le_refl _) _).trans (hb.mono (by rw [e]; omega)), ?_⟩
  have := hb.size
  rw [e] at this
  omega

theorem varT_len (t : Nat) (l : List Nat) (n : Int) : (varT t l n).length ≤ 2 := by
  match l with
  | [] => exact Nat.zero_le _
  | [f] => exact Nat.le_refl _
  | _ :: _ :: _ => exact Nat.zero_le _

set_option maxRecDepth 100000 in
set_option maxHeartbeats 4000000 in
theorem first_long (tg : Nat → Nat) (v : Value) (xs : List Nat) (hx : ∀ c ∈ xs, c < 4294967296) (h0 : xs ≠ []) (hl : xs.length ≤ 64) (w : World) (hv : RdC w v xs) (hcs : TabsT tg w) (g : It) (c : Nat) (hg : guessC xs = (g, c)) (hlen : xs.length < c) :
    Calls Tryd.prog 51 #[v] w (FirstEnd (cellsT tg) w xs) := by
  obtain ⟨a, cap, rfl, hcap, hab, hcell⟩ := hv.first h0
  have hc0 : w.cell? a = some (.int .u32 (xs[0]'(List.length_pos_iff.2 h0) : Int)) := hcell 0 (List.length_pos_iff.2 h0)
  have hg0 : xs.getD 0 0 = xs[0]'(List.length_pos_iff.2 h0) := by rw [List.getD_eq_getElem?_getD, List.getElem?_eq_getElem (List.length_pos_iff.2 h0)]; rfl
  obtain ⟨x, hxx⟩ : ∃ x, xs[0]'(List.length_pos_iff.2 h0) = x := ⟨_, rfl⟩
  rw [hxx] at hc0 hg0
  have hpos : 0 < xs.length := List.length_pos_iff.2 h0
  have HG := Lib.hid (fun W (hb : Below w.heap.size w W) => impl_guess tg _ xs hx h0 hl W (hv.below hb) (hcs.below hb))
  unfold GuessEnd at HG
  rw [hg] at HG
  unfold FirstEnd
  rw [firstC_no hg (by omega), hg0]
  obtain ⟨s, hs⟩ : ∃ s, shapeV g = s := ⟨_, rfl⟩
  rw [show shapeV (g, c).1 = s from hs] at HG
  have HE : Hid (∀ W, Below w.heap.size w W → (Ending.returned (.tuple #[itA 0 ⟨#[]⟩ 0 false (x : Int), .int .i64 1]) = Ending.returned (.tuple #[itVal (rawIt x), .int .i64 ((1 : Nat) : Int)]) ∧ Below w.heap.size w W)) := Lib.hid (fun W h => ⟨rfl, h⟩)
  obtain ⟨L, hL⟩ : ∃ L, xs.length = L := ⟨_, rfl⟩
  rw [hL] at HG hcap hlen hpos ⊢
  have j0i : (0 : Int) < (L : Int) := by omega
  have hgt : (L : Int) < (c : Int) := by omega
  clear hs hg hg0 hxx hx hcell hv hcs hL hl h0
  go_enter Tryd.func51, Tryd.ntmps51
  go_wp2_with fail
  refine (HG.out _ ((Below.refl _ _).alloc (Nat.le_refl _) _)).mono ?_
  rintro e w1 ⟨rfl, hb⟩
  obtain ⟨k2, hB, hlt⟩ := two_below hb
  have k2 : Blk w1 w.heap.size 57 (itC 0 ⟨#[]⟩ 0 false 0) := k2
  have K2 := Lib.hid k2
  have HB2 := Lib.hid hB
  obtain ⟨d0, d1, d2, d3, d4, f0, f1, f2, f3, f4⟩ := itC_cells k2
  have cc0 := (hB.cell (p := a) hab).trans hc0
  clear hb k2 hB
  go_wp2_with fail
  go_quiet (fail)
  go_wp2_with fail
  have hk := putIt_blk (show Blk (w1.drewN nq) w.heap.size 57 (itC 0 ⟨#[]⟩ 0 false 0) from K2.out) 0 ⟨#[]⟩ 0 false (x : Int)
  have hbl := putIt_below (g := w.heap.size) (below_drewN HB2.out nq) (Nat.le_refl _) 0 ⟨#[]⟩ 0 false (x : Int)
  show bodyPost _ _ _ _ _ (putIt _ w.heap.size 0 ⟨#[]⟩ 0 false (x : Int))
  generalize putIt _ w.heap.size 0 ⟨#[]⟩ 0 false (x : Int) = W5 at hk hbl ⊢
  obtain ⟨e0, e1, e2, e3, e4, -⟩ := itC_cells hk
  clear hk
  exact bodyPost_ret (v := .tuple #[itA 0 ⟨#[]⟩ 0 false (x : Int), .int .i64 1]) (by simp [results, Tryd.results51, e0, e1, e2, e3, e4, go_sem]) rfl (HE.out _ hbl)

set_option maxRecDepth 100000 in
set_option maxHeartbeats 8000000 in
theorem first_word_yes (tg : Nat → Nat) (v : Value) (xs : List Nat) (hx : ∀ c ∈ xs, c < 4294967296) (h0 : xs ≠ []) (hl : xs.length ≤ 64) (w : World) (hv : RdC w v xs) (hcs : TabsT tg w) (k : Int) (nm : ByteArray) (hk : wordK k = true) (hsz : nm.size ≤ 672) (c : Nat) (hg : guessC xs = (⟨k, nm, 0, false, 0⟩, c)) (hlen : c ≤ xs.length) (hq : cellsT tg ⟨k, nm, 0, false, 0⟩ = xs.take c) :
    Calls Tryd.prog 51 #[v] w (FirstEnd (cellsT tg) w xs) := by
  obtain ⟨a, cap, rfl, hcap, hab, hcell⟩ := hv.first h0
  have hc0 : w.cell? a = some (.int .u32 (xs[0]'(List.length_pos_iff.2 h0) : Int)) := hcell 0 (List.length_pos_iff.2 h0)
  have hg0 : xs.getD 0 0 = xs[0]'(List.length_pos_iff.2 h0) := by rw [List.getD_eq_getElem?_getD, List.getElem?_eq_getElem (List.length_pos_iff.2 h0)]; rfl
  obtain ⟨x, hxx⟩ : ∃ x, xs[0]'(List.length_pos_iff.2 h0) = x := ⟨_, rfl⟩
  rw [hxx] at hc0 hg0
  have hpos : 0 < xs.length := List.length_pos_iff.2 h0
  have HG := Lib.hid (fun W (hb : Below w.heap.size w W) => impl_guess tg _ xs hx h0 hl W (hv.below hb) (hcs.below hb))
  unfold GuessEnd at HG
  rw [hg] at HG
  have hce : cellsT tg ⟨k, nm, 0, false, 0⟩ = wordT (tg k.toNat) (packs nm.data.toList) := by unfold cellsT; rw [if_pos (show wordK k = true from hk), if_pos ⟨rfl, rfl, rfl⟩]
  unfold FirstEnd
  rw [firstC_yes hg hlen hq]
  rw [show shapeV (⟨k, nm, 0, false, 0⟩, c).1 = .iface 108 (.agg #[.int .i64 k, .string nm]) from by unfold shapeV; rw [if_pos (show wordK k = true from hk)]] at HG
  have HC := Lib.hid (fun W (hb : Below w.heap.size w W) => word_exact tg k nm (by have := of_decide_eq_true hk; omega) (by have := of_decide_eq_true hk; omega) (by omega) W (hcs.below hb))
  have HTK := Lib.hid (hv.take c hlen)
  have hzl : (wordT (tg k.toNat) (packs nm.data.toList)).length ≤ 4611686018427387904 := by rw [wordT_len]; have := (packs_len nm.data.toList).2; omega
  rw [hce] at hq
  obtain ⟨cs, hcs2⟩ : ∃ cs : List Nat, wordT (tg k.toNat) (packs nm.data.toList) = cs := ⟨_, rfl⟩
  rw [hcs2] at hq HC hzl
  have HZL := Lib.hid hzl
  have hd : decide (cs = xs.take c) = true := decide_eq_true hq
  have HQ : Hid (∀ W v2, RdN W v2 cs → RdN W (.slice (some a) c cap) (xs.take c) → Calls Tryd.prog 70 #[v2, .slice (some a) c cap] W fun e w' => e = .returned (.bool true) ∧ ∃ d, w' = W.drewN d) := Lib.hid (fun W v2 h1 h2 => by rw [← hd]; exact slequal_any v2 _ cs _ W h1 h2)
  have HE : Hid (∀ W, Below w.heap.size w W → (Ending.returned (.tuple #[itA k nm 0 false 0, .int .i64 (c : Int)]) = Ending.returned (.tuple #[itVal ⟨k, nm, 0, false, 0⟩, .int .i64 ((c : Nat) : Int)]) ∧ Below w.heap.size w W)) := Lib.hid (fun W h => ⟨rfl, h⟩)
  obtain ⟨L, hL⟩ : ∃ L, xs.length = L := ⟨_, rfl⟩
  rw [hL] at HG hcap hlen hpos ⊢
  have j0i : (0 : Int) < (L : Int) := by omega
  have hle : (c : Int) ≤ (L : Int) := by omega
  have hle2 : (c : Int) ≤ (cap : Int) := by omega
  have hdc : decide (L < c) = false := decide_eq_false (by omega)
  have HAB := Lib.hid hab
  have HC0 := Lib.hid hc0
  clear hg hg0 hxx hx hcell hv hcs hL hl h0 hq hd hce hcs2 hzl hk hsz hab hc0
  go_enter Tryd.func51, Tryd.ntmps51
  go_wp2_with fail
  refine (HG.out _ ((Below.refl _ _).alloc (Nat.le_refl _) _)).mono ?_
  rintro e w1 ⟨rfl, hb⟩
  obtain ⟨k2, hB, hlt⟩ := two_below hb
  have k2 : Blk w1 w.heap.size 57 (itC 0 ⟨#[]⟩ 0 false 0) := k2
  have K2 := Lib.hid k2
  have HB2 := Lib.hid hB
  have hslt := hlt
  clear hb k2 hB
  go_wp2_with fail
  go_region_held3 (fun _ => True) (first | trivial | go_keep) (first
    | (go_at_call 70; refine (HQ.out _ _ (RdN.of_own hown2 HZL.out) ((HTK.out.below HB3.out).1)).mono ?_; rintro e w3 ⟨rfl, d3, rfl⟩)
    | (go_at_call 124; refine (HC.out _ HB2.out.drew).mono ?_; rintro e w2 ⟨v2, rfl, hown2, hb2⟩; have HB3 := Lib.hid (HB2.out.drew.trans (hb2.mono HB2.out.size)); have K3 := Lib.hid (K2.out.drew.below hb2 K2.out.lt)))
  have HB4 := Lib.hid (below_drewN HB3.out d3)
  have K4 : Hid (Blk (w2.drewN d3) w.heap.size 57 (itC 0 ⟨#[]⟩ 0 false 0)) := Lib.hid K3.out
  clear hown2 hb2 HQ HC HTK HC0 K2 HG
  go_wp2_with fail
  refine (word_item k nm _).mono ?_
  rintro e w4 ⟨rfl, hb4⟩
  have k5 := K4.out.below hb4 K4.out.lt
  have HB5 := Lib.hid (HB4.out.trans (hb4.mono HB4.out.size))
  have K5 := Lib.hid k5
  obtain ⟨d0, d1, d2, d3, d4, f0, f1, f2, f3, f4⟩ := itC_cells k5
  have hlt5 := k5.lt
  clear hb4 k5
  go_wp2_with fail
  have hk := putIt_blk K5.out k nm 0 false 0
  have hbl := putIt_below (g := w.heap.size) HB5.out (Nat.le_refl _) k nm 0 false 0
  show bodyPost _ _ _ _ _ (putIt _ w.heap.size k nm 0 false 0)
  generalize putIt _ w.heap.size k nm 0 false 0 = W5 at hk hbl ⊢
  obtain ⟨e0, e1, e2, e3, e4, -⟩ := itC_cells hk
  clear hk
  exact bodyPost_ret (v := .tuple #[itA k nm 0 false 0, .int .i64 (c : Int)]) (by simp [results, Tryd.results51, e0, e1, e2, e3, e4, go_sem]) rfl (HE.out _ hbl)

set_option maxRecDepth 100000 in
set_option maxHeartbeats 8000000 in
theorem first_word_no (tg : Nat → Nat) (v : Value) (xs : List Nat) (hx : ∀ c ∈ xs, c < 4294967296) (h0 : xs ≠ []) (hl : xs.length ≤ 64) (w : World) (hv : RdC w v xs) (hcs : TabsT tg w) (k : Int) (nm : ByteArray) (hk : wordK k = true) (hsz : nm.size ≤ 672) (c : Nat) (hg : guessC xs = (⟨k, nm, 0, false, 0⟩, c)) (hlen : c ≤ xs.length) (hq : cellsT tg ⟨k, nm, 0, false, 0⟩ ≠ xs.take c) :
    Calls Tryd.prog 51 #[v] w (FirstEnd (cellsT tg) w xs) := by
  obtain ⟨a, cap, rfl, hcap, hab, hcell⟩ := hv.first h0
  have hc0 : w.cell? a = some (.int .u32 (xs[0]'(List.length_pos_iff.2 h0) : Int)) := hcell 0 (List.length_pos_iff.2 h0)
  have hg0 : xs.getD 0 0 = xs[0]'(List.length_pos_iff.2 h0) := by rw [List.getD_eq_getElem?_getD, List.getElem?_eq_getElem (List.length_pos_iff.2 h0)]; rfl
  obtain ⟨x, hxx⟩ : ∃ x, xs[0]'(List.length_pos_iff.2 h0) = x := ⟨_, rfl⟩
  rw [hxx] at hc0 hg0
  have hpos : 0 < xs.length := List.length_pos_iff.2 h0
  have HG := Lib.hid (fun W (hb : Below w.heap.size w W) => impl_guess tg _ xs hx h0 hl W (hv.below hb) (hcs.below hb))
  unfold GuessEnd at HG
  rw [hg] at HG
  have hce : cellsT tg ⟨k, nm, 0, false, 0⟩ = wordT (tg k.toNat) (packs nm.data.toList) := by unfold cellsT; rw [if_pos (show wordK k = true from hk), if_pos ⟨rfl, rfl, rfl⟩]
  unfold FirstEnd
  rw [firstC_no hg (fun h => hq h.2), hg0]
  rw [show shapeV (⟨k, nm, 0, false, 0⟩, c).1 = .iface 108 (.agg #[.int .i64 k, .string nm]) from by unfold shapeV; rw [if_pos (show wordK k = true from hk)]] at HG
  have HC := Lib.hid (fun W (hb : Below w.heap.size w W) => word_exact tg k nm (by have := of_decide_eq_true hk; omega) (by have := of_decide_eq_true hk; omega) (by omega) W (hcs.below hb))
  have HTK := Lib.hid (hv.take c hlen)
  have hzl : (wordT (tg k.toNat) (packs nm.data.toList)).length ≤ 4611686018427387904 := by rw [wordT_len]; have := (packs_len nm.data.toList).2; omega
  rw [hce] at hq
  obtain ⟨cs, hcs2⟩ : ∃ cs : List Nat, wordT (tg k.toNat) (packs nm.data.toList) = cs := ⟨_, rfl⟩
  rw [hcs2] at hq HC hzl
  have HZL := Lib.hid hzl
  have hd : decide (cs = xs.take c) = false := decide_eq_false hq
  have HQ : Hid (∀ W v2, RdN W v2 cs → RdN W (.slice (some a) c cap) (xs.take c) → Calls Tryd.prog 70 #[v2, .slice (some a) c cap] W fun e w' => e = .returned (.bool false) ∧ ∃ d, w' = W.drewN d) := Lib.hid (fun W v2 h1 h2 => by rw [← hd]; exact slequal_any v2 _ cs _ W h1 h2)
  have HE : Hid (∀ W, Below w.heap.size w W → (Ending.returned (.tuple #[itA 0 ⟨#[]⟩ 0 false (x : Int), .int .i64 1]) = Ending.returned (.tuple #[itVal (rawIt x), .int .i64 ((1 : Nat) : Int)]) ∧ Below w.heap.size w W)) := Lib.hid (fun W h => ⟨rfl, h⟩)
  obtain ⟨L, hL⟩ : ∃ L, xs.length = L := ⟨_, rfl⟩
  rw [hL] at HG hcap hlen hpos ⊢
  have j0i : (0 : Int) < (L : Int) := by omega
  have hle : (c : Int) ≤ (L : Int) := by omega
  have hle2 : (c : Int) ≤ (cap : Int) := by omega
  have hdc : decide (L < c) = false := decide_eq_false (by omega)
  have HAB := Lib.hid hab
  have HC0 := Lib.hid hc0
  clear hg hg0 hxx hx hcell hv hcs hL hl h0 hq hd hce hcs2 hzl hk hsz hab hc0
  go_enter Tryd.func51, Tryd.ntmps51
  go_wp2_with fail
  refine (HG.out _ ((Below.refl _ _).alloc (Nat.le_refl _) _)).mono ?_
  rintro e w1 ⟨rfl, hb⟩
  obtain ⟨k2, hB, hlt⟩ := two_below hb
  have k2 : Blk w1 w.heap.size 57 (itC 0 ⟨#[]⟩ 0 false 0) := k2
  have K2 := Lib.hid k2
  have HB2 := Lib.hid hB
  have hslt := hlt
  clear hb k2 hB
  go_wp2_with fail
  go_region_held3 (fun _ => True) (first | trivial | go_keep) (first
    | (go_at_call 70; refine (HQ.out _ _ (RdN.of_own hown2 HZL.out) ((HTK.out.below HB3.out).1)).mono ?_; rintro e w3 ⟨rfl, d3, rfl⟩)
    | (go_at_call 124; refine (HC.out _ HB2.out.drew).mono ?_; rintro e w2 ⟨v2, rfl, hown2, hb2⟩; have HB3 := Lib.hid (HB2.out.drew.trans (hb2.mono HB2.out.size)); have K3 := Lib.hid (K2.out.drew.below hb2 K2.out.lt)))
  have HB4 := Lib.hid (below_drewN HB3.out d3)
  have k4 : Blk (w2.drewN d3) w.heap.size 57 (itC 0 ⟨#[]⟩ 0 false 0) := K3.out
  have K4 := Lib.hid k4
  have cc0 : (w2.drewN d3).cell? a = some (.int .u32 (x : Int)) := (HB4.out.cell (p := a) HAB.out).trans HC0.out
  obtain ⟨d0, d1, d2, d3', d4, f0, f1, f2, f3, f4⟩ := itC_cells k4
  clear hown2 hb2 HQ HC HTK HC0 K2 HG k4
  go_wp2_with fail
  have hk := putIt_blk K4.out 0 ⟨#[]⟩ 0 false (x : Int)
  have hbl := putIt_below (g := w.heap.size) HB4.out (Nat.le_refl _) 0 ⟨#[]⟩ 0 false (x : Int)
  show bodyPost _ _ _ _ _ (putIt _ w.heap.size 0 ⟨#[]⟩ 0 false (x : Int))
  generalize putIt _ w.heap.size 0 ⟨#[]⟩ 0 false (x : Int) = W5 at hk hbl ⊢
  obtain ⟨e0, e1, e2, e3, e4, -⟩ := itC_cells hk
  clear hk
  exact bodyPost_ret (v := .tuple #[itA 0 ⟨#[]⟩ 0 false (x : Int), .int .i64 1]) (by simp [results, Tryd.results51, e0, e1, e2, e3, e4, go_sem]) rfl (HE.out _ hbl)

set_option maxRecDepth 100000 in
set_option maxHeartbeats 8000000 in
theorem first_num_yes (tg : Nat → Nat) (v : Value) (xs : List Nat) (hx : ∀ c ∈ xs, c < 4294967296) (h0 : xs ≠ []) (hl : xs.length ≤ 64) (w : World) (hv : RdC w v xs) (hcs : TabsT tg w) (k n : Int) (bx : Bool) (hk : numK k = true) (c : Nat) (hg : guessC xs = (⟨k, noText, n, bx, 0⟩, c)) (hlen : c ≤ xs.length) (hq : cellsT tg ⟨k, noText, n, bx, 0⟩ = xs.take c) :
    Calls Tryd.prog 51 #[v] w (FirstEnd (cellsT tg) w xs) := by
  obtain ⟨a, cap, rfl, hcap, hab, hcell⟩ := hv.first h0
  have hc0 : w.cell? a = some (.int .u32 (xs[0]'(List.length_pos_iff.2 h0) : Int)) := hcell 0 (List.length_pos_iff.2 h0)
  have hg0 : xs.getD 0 0 = xs[0]'(List.length_pos_iff.2 h0) := by rw [List.getD_eq_getElem?_getD, List.getElem?_eq_getElem (List.length_pos_iff.2 h0)]; rfl
  obtain ⟨x, hxx⟩ : ∃ x, xs[0]'(List.length_pos_iff.2 h0) = x := ⟨_, rfl⟩
  rw [hxx] at hc0 hg0
  have hpos : 0 < xs.length := List.length_pos_iff.2 h0
  have HG := Lib.hid (fun W (hb : Below w.heap.size w W) => impl_guess tg _ xs hx h0 hl W (hv.below hb) (hcs.below hb))
  unfold GuessEnd at HG
  rw [hg] at HG
  have hce : cellsT tg ⟨k, noText, n, bx, 0⟩ = numT n bx (tg k.toNat) (longOf k) := by unfold cellsT; rw [if_neg (show ¬ wordK k = true by have := of_decide_eq_true hk; intro h; have := of_decide_eq_true h; omega), if_pos (show numK k = true from hk), if_pos ⟨rfl, rfl⟩]
  unfold FirstEnd
  rw [firstC_yes hg hlen hq]
  rw [show shapeV (⟨k, noText, n, bx, 0⟩, c).1 = .iface 110 (.agg #[.int .i64 k, .int .i32 n, .bool bx]) from by unfold shapeV; rw [if_neg (show ¬ wordK k = true by have := of_decide_eq_true hk; intro h; have := of_decide_eq_true h; omega), if_pos (show numK k = true from hk)]] at HG
  have HC := Lib.hid (fun W (hb : Below w.heap.size w W) => number_exact tg k n bx hk W (hcs.below hb))
  have HTK := Lib.hid (hv.take c hlen)
  have hzl : (numT n bx (tg k.toNat) (longOf k)).length ≤ 4611686018427387904 := by unfold numT; split <;> simp
  rw [hce] at hq
  obtain ⟨cs, hcs2⟩ : ∃ cs : List Nat, numT n bx (tg k.toNat) (longOf k) = cs := ⟨_, rfl⟩
  rw [hcs2] at hq HC hzl
  have HZL := Lib.hid hzl
  have hd : decide (cs = xs.take c) = true := decide_eq_true hq
  have HQ : Hid (∀ W v2, RdN W v2 cs → RdN W (.slice (some a) c cap) (xs.take c) → Calls Tryd.prog 70 #[v2, .slice (some a) c cap] W fun e w' => e = .returned (.bool true) ∧ ∃ d, w' = W.drewN d) := Lib.hid (fun W v2 h1 h2 => by rw [← hd]; exact slequal_any v2 _ cs _ W h1 h2)
  have HE : Hid (∀ W, Below w.heap.size w W → (Ending.returned (.tuple #[itA k ⟨#[]⟩ n bx 0, .int .i64 (c : Int)]) = Ending.returned (.tuple #[itVal ⟨k, noText, n, bx, 0⟩, .int .i64 ((c : Nat) : Int)]) ∧ Below w.heap.size w W)) := Lib.hid (fun W h => ⟨rfl, h⟩)
  obtain ⟨L, hL⟩ : ∃ L, xs.length = L := ⟨_, rfl⟩
  rw [hL] at HG hcap hlen hpos ⊢
  have j0i : (0 : Int) < (L : Int) := by omega
  have hle : (c : Int) ≤ (L : Int) := by omega
  have hle2 : (c : Int) ≤ (cap : Int) := by omega
  have hdc : decide (L < c) = false := decide_eq_false (by omega)
  have HAB := Lib.hid hab
  have HC0 := Lib.hid hc0
  clear hg hg0 hxx hx hcell hv hcs hL hl h0 hq hd hce hcs2 hzl hk hab hc0
  go_enter Tryd.func51, Tryd.ntmps51
  go_wp2_with fail
  refine (HG.out _ ((Below.refl _ _).alloc (Nat.le_refl _) _)).mono ?_
  rintro e w1 ⟨rfl, hb⟩
  obtain ⟨k2, hB, hlt⟩ := two_below hb
  have k2 : Blk w1 w.heap.size 57 (itC 0 ⟨#[]⟩ 0 false 0) := k2
  have K2 := Lib.hid k2
  have HB2 := Lib.hid hB
  have hslt := hlt
  clear hb k2 hB
  go_wp2_with fail
  go_region_held3 (fun _ => True) (first | trivial | go_keep) (first
    | (go_at_call 70; refine (HQ.out _ _ (RdN.of_own hown2 HZL.out) ((HTK.out.below HB3.out).1)).mono ?_; rintro e w3 ⟨rfl, d3, rfl⟩)
    | (go_at_call 127; refine (HC.out _ HB2.out.drew).mono ?_; rintro e w2 ⟨v2, rfl, hown2, hb2⟩; have HB3 := Lib.hid (HB2.out.drew.trans (hb2.mono HB2.out.size)); have K3 := Lib.hid (K2.out.drew.below hb2 K2.out.lt)))
  have HB4 := Lib.hid (below_drewN HB3.out d3)
  have K4 : Hid (Blk (w2.drewN d3) w.heap.size 57 (itC 0 ⟨#[]⟩ 0 false 0)) := Lib.hid K3.out
  clear hown2 hb2 HQ HC HTK HC0 K2 HG
  go_wp2_with fail
  refine (number_item k n bx _).mono ?_
  rintro e w4 ⟨rfl, hb4⟩
  have k5 := K4.out.below hb4 K4.out.lt
  have HB5 := Lib.hid (HB4.out.trans (hb4.mono HB4.out.size))
  have K5 := Lib.hid k5
  obtain ⟨d0, d1, d2, d3, d4, f0, f1, f2, f3, f4⟩ := itC_cells k5
  have hlt5 := k5.lt
  clear hb4 k5
  go_wp2_with fail
  have hk := putIt_blk K5.out k ⟨#[]⟩ n bx 0
  have hbl := putIt_below (g := w.heap.size) HB5.out (Nat.le_refl _) k ⟨#[]⟩ n bx 0
  show bodyPost _ _ _ _ _ (putIt _ w.heap.size k ⟨#[]⟩ n bx 0)
  generalize putIt _ w.heap.size k ⟨#[]⟩ n bx 0 = W5 at hk hbl ⊢
  obtain ⟨e0, e1, e2, e3, e4, -⟩ := itC_cells hk
  clear hk
  exact bodyPost_ret (v := .tuple #[itA k ⟨#[]⟩ n bx 0, .int .i64 (c : Int)]) (by simp [results, Tryd.results51, e0, e1, e2, e3, e4, go_sem]) rfl (HE.out _ hbl)

set_option maxRecDepth 100000 in
set_option maxHeartbeats 8000000 in
theorem first_num_no (tg : Nat → Nat) (v : Value) (xs : List Nat) (hx : ∀ c ∈ xs, c < 4294967296) (h0 : xs ≠ []) (hl : xs.length ≤ 64) (w : World) (hv : RdC w v xs) (hcs : TabsT tg w) (k n : Int) (bx : Bool) (hk : numK k = true) (c : Nat) (hg : guessC xs = (⟨k, noText, n, bx, 0⟩, c)) (hlen : c ≤ xs.length) (hq : cellsT tg ⟨k, noText, n, bx, 0⟩ ≠ xs.take c) :
    Calls Tryd.prog 51 #[v] w (FirstEnd (cellsT tg) w xs) := by
  obtain ⟨a, cap, rfl, hcap, hab, hcell⟩ := hv.first h0
  have hc0 : w.cell? a = some (.int .u32 (xs[0]'(List.length_pos_iff.2 h0) : Int)) := hcell 0 (List.length_pos_iff.2 h0)
  have hg0 : xs.getD 0 0 = xs[0]'(List.length_pos_iff.2 h0) := by rw [List.getD_eq_getElem?_getD, List.getElem?_eq_getElem (List.length_pos_iff.2 h0)]; rfl
  obtain ⟨x, hxx⟩ : ∃ x, xs[0]'(List.length_pos_iff.2 h0) = x := ⟨_, rfl⟩
  rw [hxx] at hc0 hg0
  have hpos : 0 < xs.length := List.length_pos_iff.2 h0
  have HG := Lib.hid (fun W (hb : Below w.heap.size w W) => impl_guess tg _ xs hx h0 hl W (hv.below hb) (hcs.below hb))
  unfold GuessEnd at HG
  rw [hg] at HG
  have hce : cellsT tg ⟨k, noText, n, bx, 0⟩ = numT n bx (tg k.toNat) (longOf k) := by unfold cellsT; rw [if_neg (show ¬ wordK k = true by have := of_decide_eq_true hk; intro h; have := of_decide_eq_true h; omega), if_pos (show numK k = true from hk), if_pos ⟨rfl, rfl⟩]
  unfold FirstEnd
  rw [firstC_no hg (fun h => hq h.2), hg0]
  rw [show shapeV (⟨k, noText, n, bx, 0⟩, c).1 = .iface 110 (.agg #[.int .i64 k, .int .i32 n, .bool bx]) from by unfold shapeV; rw [if_neg (show ¬ wordK k = true by have := of_decide_eq_true hk; intro h; have := of_decide_eq_true h; omega), if_pos (show numK k = true from hk)]] at HG
  have HC := Lib.hid (fun W (hb : Below w.heap.size w W) => number_exact tg k n bx hk W (hcs.below hb))
  have HTK := Lib.hid (hv.take c hlen)
  have hzl : (numT n bx (tg k.toNat) (longOf k)).length ≤ 4611686018427387904 := by unfold numT; split <;> simp
  rw [hce] at hq
  obtain ⟨cs, hcs2⟩ : ∃ cs : List Nat, numT n bx (tg k.toNat) (longOf k) = cs := ⟨_, rfl⟩
  rw [hcs2] at hq HC hzl
  have HZL := Lib.hid hzl
  have hd : decide (cs = xs.take c) = false := decide_eq_false hq
  have HQ : Hid (∀ W v2, RdN W v2 cs → RdN W (.slice (some a) c cap) (xs.take c) → Calls Tryd.prog 70 #[v2, .slice (some a) c cap] W fun e w' => e = .returned (.bool false) ∧ ∃ d, w' = W.drewN d) := Lib.hid (fun W v2 h1 h2 => by rw [← hd]; exact slequal_any v2 _ cs _ W h1 h2)
  have HE : Hid (∀ W, Below w.heap.size w W → (Ending.returned (.tuple #[itA 0 ⟨#[]⟩ 0 false (x : Int), .int .i64 1]) = Ending.returned (.tuple #[itVal (rawIt x), .int .i64 ((1 : Nat) : Int)]) ∧ Below w.heap.size w W)) := Lib.hid (fun W h => ⟨rfl, h⟩)
  obtain ⟨L, hL⟩ : ∃ L, xs.length = L := ⟨_, rfl⟩
  rw [hL] at HG hcap hlen hpos ⊢
  have j0i : (0 : Int) < (L : Int) := by omega
  have hle : (c : Int) ≤ (L : Int) := by omega
  have hle2 : (c : Int) ≤ (cap : Int) := by omega
  have hdc : decide (L < c) = false := decide_eq_false (by omega)
  have HAB := Lib.hid hab
  have HC0 := Lib.hid hc0
  clear hg hg0 hxx hx hcell hv hcs hL hl h0 hq hd hce hcs2 hzl hk hab hc0
  go_enter Tryd.func51, Tryd.ntmps51
  go_wp2_with fail
  refine (HG.out _ ((Below.refl _ _).alloc (Nat.le_refl _) _)).mono ?_
  rintro e w1 ⟨rfl, hb⟩
  obtain ⟨k2, hB, hlt⟩ := two_below hb
  have k2 : Blk w1 w.heap.size 57 (itC 0 ⟨#[]⟩ 0 false 0) := k2
  have K2 := Lib.hid k2
  have HB2 := Lib.hid hB
  have hslt := hlt
  clear hb k2 hB
  go_wp2_with fail
  go_region_held3 (fun _ => True) (first | trivial | go_keep) (first
    | (go_at_call 70; refine (HQ.out _ _ (RdN.of_own hown2 HZL.out) ((HTK.out.below HB3.out).1)).mono ?_; rintro e w3 ⟨rfl, d3, rfl⟩)
    | (go_at_call 127; refine (HC.out _ HB2.out.drew).mono ?_; rintro e w2 ⟨v2, rfl, hown2, hb2⟩; have HB3 := Lib.hid (HB2.out.drew.trans (hb2.mono HB2.out.size)); have K3 := Lib.hid (K2.out.drew.below hb2 K2.out.lt)))
  have HB4 := Lib.hid (below_drewN HB3.out d3)
  have k4 : Blk (w2.drewN d3) w.heap.size 57 (itC 0 ⟨#[]⟩ 0 false 0) := K3.out
  have K4 := Lib.hid k4
  have cc0 : (w2.drewN d3).cell? a = some (.int .u32 (x : Int)) := (HB4.out.cell (p := a) HAB.out).trans HC0.out
  obtain ⟨d0, d1, d2, d3', d4, f0, f1, f2, f3, f4⟩ := itC_cells k4
  clear hown2 hb2 HQ HC HTK HC0 K2 HG k4
  go_wp2_with fail
  have hk := putIt_blk K4.out 0 ⟨#[]⟩ 0 false (x : Int)
  have hbl := putIt_below (g := w.heap.size) HB4.out (Nat.le_refl _) 0 ⟨#[]⟩ 0 false (x : Int)
  show bodyPost _ _ _ _ _ (putIt _ w.heap.size 0 ⟨#[]⟩ 0 false (x : Int))
  generalize putIt _ w.heap.size 0 ⟨#[]⟩ 0 false (x : Int) = W5 at hk hbl ⊢
  obtain ⟨e0, e1, e2, e3, e4, -⟩ := itC_cells hk
  clear hk
  exact bodyPost_ret (v := .tuple #[itA 0 ⟨#[]⟩ 0 false (x : Int), .int .i64 1]) (by simp [results, Tryd.results51, e0, e1, e2, e3, e4, go_sem]) rfl (HE.out _ hbl)

set_option maxRecDepth 100000 in
set_option maxHeartbeats 8000000 in
theorem first_var_yes (tg : Nat → Nat) (v : Value) (xs : List Nat) (hx : ∀ c ∈ xs, c < 4294967296) (h0 : xs ≠ []) (hl : xs.length ≤ 64) (w : World) (hv : RdC w v xs) (hcs : TabsT tg w) (nm : ByteArray) (n : Int) (hsz : nm.size ≤ 672) (c : Nat) (hg : guessC xs = (⟨9, nm, n, false, 0⟩, c)) (hlen : c ≤ xs.length) (hq : cellsT tg ⟨9, nm, n, false, 0⟩ = xs.take c) :
    Calls Tryd.prog 51 #[v] w (FirstEnd (cellsT tg) w xs) := by
  obtain ⟨a, cap, rfl, hcap, hab, hcell⟩ := hv.first h0
  have hc0 : w.cell? a = some (.int .u32 (xs[0]'(List.length_pos_iff.2 h0) : Int)) := hcell 0 (List.length_pos_iff.2 h0)
  have hg0 : xs.getD 0 0 = xs[0]'(List.length_pos_iff.2 h0) := by rw [List.getD_eq_getElem?_getD, List.getElem?_eq_getElem (List.length_pos_iff.2 h0)]; rfl
  obtain ⟨x, hxx⟩ : ∃ x, xs[0]'(List.length_pos_iff.2 h0) = x := ⟨_, rfl⟩
  rw [hxx] at hc0 hg0
  have hpos : 0 < xs.length := List.length_pos_iff.2 h0
  have HG := Lib.hid (fun W (hb : Below w.heap.size w W) => impl_guess tg _ xs hx h0 hl W (hv.below hb) (hcs.below hb))
  unfold GuessEnd at HG
  rw [hg] at HG
  have hce : cellsT tg ⟨9, nm, n, false, 0⟩ = varT (tg 9) (packs nm.data.toList) n := rfl
  unfold FirstEnd
  rw [firstC_yes hg hlen hq]
  rw [show shapeV (⟨9, nm, n, false, 0⟩, c).1 = .iface 112 (.agg #[.int .i64 9, .string nm, .int .i32 n]) from rfl] at HG
  have HC := Lib.hid (fun W (hb : Below w.heap.size w W) => variable_exact tg n nm (by omega) W (hcs.below hb))
  have HTK := Lib.hid (hv.take c hlen)
  have hzl : (varT (tg 9) (packs nm.data.toList) n).length ≤ 4611686018427387904 := by have := varT_len (tg 9) (packs nm.data.toList) n; omega
  rw [hce] at hq
  obtain ⟨cs, hcs2⟩ : ∃ cs : List Nat, varT (tg 9) (packs nm.data.toList) n = cs := ⟨_, rfl⟩
  rw [hcs2] at hq HC hzl
  have HZL := Lib.hid hzl
  have hd : decide (cs = xs.take c) = true := decide_eq_true hq
  have HQ : Hid (∀ W v2, RdN W v2 cs → RdN W (.slice (some a) c cap) (xs.take c) → Calls Tryd.prog 70 #[v2, .slice (some a) c cap] W fun e w' => e = .returned (.bool true) ∧ ∃ d, w' = W.drewN d) := Lib.hid (fun W v2 h1 h2 => by rw [← hd]; exact slequal_any v2 _ cs _ W h1 h2)
  have HE : Hid (∀ W, Below w.heap.size w W → (Ending.returned (.tuple #[itA 9 nm n false 0, .int .i64 (c : Int)]) = Ending.returned (.tuple #[itVal ⟨9, nm, n, false, 0⟩, .int .i64 ((c : Nat) : Int)]) ∧ Below w.heap.size w W)) := Lib.hid (fun W h => ⟨rfl, h⟩)
  obtain ⟨L, hL⟩ : ∃ L, xs.length = L := ⟨_, rfl⟩
  rw [hL] at HG hcap hlen hpos ⊢
  have j0i : (0 : Int) < (L : Int) := by omega
  have hle : (c : Int) ≤ (L : Int) := by omega
  have hle2 : (c : Int) ≤ (cap : Int) := by omega
  have hdc : decide (L < c) = false := decide_eq_false (by omega)
  have HAB := Lib.hid hab
  have HC0 := Lib.hid hc0
  clear hg hg0 hxx hx hcell hv hcs hL hl h0 hq hd hce hcs2 hzl hsz hab hc0
  go_enter Tryd.func51, Tryd.ntmps51
  go_wp2_with fail
  refine (HG.out _ ((Below.refl _ _).alloc (Nat.le_refl _) _)).mono ?_
  rintro e w1 ⟨rfl, hb⟩
  obtain ⟨k2, hB, hlt⟩ := two_below hb
  have k2 : Blk w1 w.heap.size 57 (itC 0 ⟨#[]⟩ 0 false 0) := k2
  have K2 := Lib.hid k2
  have HB2 := Lib.hid hB
  have hslt := hlt
  clear hb k2 hB
  go_wp2_with fail
  go_region_held3 (fun _ => True) (first | trivial | go_keep) (first
    | (go_at_call 70; refine (HQ.out _ _ (RdN.of_own hown2 HZL.out) ((HTK.out.below HB3.out).1)).mono ?_; rintro e w3 ⟨rfl, d3, rfl⟩)
    | (go_at_call 130; refine (HC.out _ HB2.out.drew).mono ?_; rintro e w2 ⟨v2, rfl, hown2, hb2⟩; have HB3 := Lib.hid (HB2.out.drew.trans (hb2.mono HB2.out.size)); have K3 := Lib.hid (K2.out.drew.below hb2 K2.out.lt)))
  have HB4 := Lib.hid (below_drewN HB3.out d3)
  have K4 : Hid (Blk (w2.drewN d3) w.heap.size 57 (itC 0 ⟨#[]⟩ 0 false 0)) := Lib.hid K3.out
  clear hown2 hb2 HQ HC HTK HC0 K2 HG
  go_wp2_with fail
  refine (variable_item 9 n nm _).mono ?_
  rintro e w4 ⟨rfl, hb4⟩
  have k5 := K4.out.below hb4 K4.out.lt
  have HB5 := Lib.hid (HB4.out.trans (hb4.mono HB4.out.size))
  have K5 := Lib.hid k5
  obtain ⟨d0, d1, d2, d3, d4, f0, f1, f2, f3, f4⟩ := itC_cells k5
  have hlt5 := k5.lt
  clear hb4 k5
  go_wp2_with fail
  have hk := putIt_blk K5.out 9 nm n false 0
  have hbl := putIt_below (g := w.heap.size) HB5.out (Nat.le_refl _) 9 nm n false 0
  show bodyPost _ _ _ _ _ (putIt _ w.heap.size 9 nm n false 0)
  generalize putIt _ w.heap.size 9 nm n false 0 = W5 at hk hbl ⊢
  obtain ⟨e0, e1, e2, e3, e4, -⟩ := itC_cells hk
  clear hk
  exact bodyPost_ret (v := .tuple #[itA 9 nm n false 0, .int .i64 (c : Int)]) (by simp [results, Tryd.results51, e0, e1, e2, e3, e4, go_sem]) rfl (HE.out _ hbl)

set_option maxRecDepth 100000 in
set_option maxHeartbeats 8000000 in
theorem first_var_no (tg : Nat → Nat) (v : Value) (xs : List Nat) (hx : ∀ c ∈ xs, c < 4294967296) (h0 : xs ≠ []) (hl : xs.length ≤ 64) (w : World) (hv : RdC w v xs) (hcs : TabsT tg w) (nm : ByteArray) (n : Int) (hsz : nm.size ≤ 672) (c : Nat) (hg : guessC xs = (⟨9, nm, n, false, 0⟩, c)) (hlen : c ≤ xs.length) (hq : cellsT tg ⟨9, nm, n, false, 0⟩ ≠ xs.take c) :
    Calls Tryd.prog 51 #[v] w (FirstEnd (cellsT tg) w xs) := by
  obtain ⟨a, cap, rfl, hcap, hab, hcell⟩ := hv.first h0
  have hc0 : w.cell? a = some (.int .u32 (xs[0]'(List.length_pos_iff.2 h0) : Int)) := hcell 0 (List.length_pos_iff.2 h0)
  have hg0 : xs.getD 0 0 = xs[0]'(List.length_pos_iff.2 h0) := by rw [List.getD_eq_getElem?_getD, List.getElem?_eq_getElem (List.length_pos_iff.2 h0)]; rfl
  obtain ⟨x, hxx⟩ : ∃ x, xs[0]'(List.length_pos_iff.2 h0) = x := ⟨_, rfl⟩
  rw [hxx] at hc0 hg0
  have hpos : 0 < xs.length := List.length_pos_iff.2 h0
  have HG := Lib.hid (fun W (hb : Below w.heap.size w W) => impl_guess tg _ xs hx h0 hl W (hv.below hb) (hcs.below hb))
  unfold GuessEnd at HG
  rw [hg] at HG
  have hce : cellsT tg ⟨9, nm, n, false, 0⟩ = varT (tg 9) (packs nm.data.toList) n := rfl
  unfold FirstEnd
  rw [firstC_no hg (fun h => hq h.2), hg0]
  rw [show shapeV (⟨9, nm, n, false, 0⟩, c).1 = .iface 112 (.agg #[.int .i64 9, .string nm, .int .i32 n]) from rfl] at HG
  have HC := Lib.hid (fun W (hb : Below w.heap.size w W) => variable_exact tg n nm (by omega) W (hcs.below hb))
  have HTK := Lib.hid (hv.take c hlen)
  have hzl : (varT (tg 9) (packs nm.data.toList) n).length ≤ 4611686018427387904 := by have := varT_len (tg 9) (packs nm.data.toList) n; omega
  rw [hce] at hq
  obtain ⟨cs, hcs2⟩ : ∃ cs : List Nat, varT (tg 9) (packs nm.data.toList) n = cs := ⟨_, rfl⟩
  rw [hcs2] at hq HC hzl
  have HZL := Lib.hid hzl
  have hd : decide (cs = xs.take c) = false := decide_eq_false hq
  have HQ : Hid (∀ W v2, RdN W v2 cs → RdN W (.slice (some a) c cap) (xs.take c) → Calls Tryd.prog 70 #[v2, .slice (some a) c cap] W fun e w' => e = .returned (.bool false) ∧ ∃ d, w' = W.drewN d) := Lib.hid (fun W v2 h1 h2 => by rw [← hd]; exact slequal_any v2 _ cs _ W h1 h2)
  have HE : Hid (∀ W, Below w.heap.size w W → (Ending.returned (.tuple #[itA 0 ⟨#[]⟩ 0 false (x : Int), .int .i64 1]) = Ending.returned (.tuple #[itVal (rawIt x), .int .i64 ((1 : Nat) : Int)]) ∧ Below w.heap.size w W)) := Lib.hid (fun W h => ⟨rfl, h⟩)
  obtain ⟨L, hL⟩ : ∃ L, xs.length = L := ⟨_, rfl⟩
  rw [hL] at HG hcap hlen hpos ⊢
  have j0i : (0 : Int) < (L : Int) := by omega
  have hle : (c : Int) ≤ (L : Int) := by omega
  have hle2 : (c : Int) ≤ (cap : Int) := by omega
  have hdc : decide (L < c) = false := decide_eq_false (by omega)
  have HAB := Lib.hid hab
  have HC0 := Lib.hid hc0
  clear hg hg0 hxx hx hcell hv hcs hL hl h0 hq hd hce hcs2 hzl hsz hab hc0
  go_enter Tryd.func51, Tryd.ntmps51
  go_wp2_with fail
  refine (HG.out _ ((Below.refl _ _).alloc (Nat.le_refl _) _)).mono ?_
  rintro e w1 ⟨rfl, hb⟩
  obtain ⟨k2, hB, hlt⟩ := two_below hb
  have k2 : Blk w1 w.heap.size 57 (itC 0 ⟨#[]⟩ 0 false 0) := k2
  have K2 := Lib.hid k2
  have HB2 := Lib.hid hB
  have hslt := hlt
  clear hb k2 hB
  go_wp2_with fail
  go_region_held3 (fun _ => True) (first | trivial | go_keep) (first
    | (go_at_call 70; refine (HQ.out _ _ (RdN.of_own hown2 HZL.out) ((HTK.out.below HB3.out).1)).mono ?_; rintro e w3 ⟨rfl, d3, rfl⟩)
    | (go_at_call 130; refine (HC.out _ HB2.out.drew).mono ?_; rintro e w2 ⟨v2, rfl, hown2, hb2⟩; have HB3 := Lib.hid (HB2.out.drew.trans (hb2.mono HB2.out.size)); have K3 := Lib.hid (K2.out.drew.below hb2 K2.out.lt)))
  have HB4 := Lib.hid (below_drewN HB3.out d3)
  have k4 : Blk (w2.drewN d3) w.heap.size 57 (itC 0 ⟨#[]⟩ 0 false 0) := K3.out
  have K4 := Lib.hid k4
  have cc0 : (w2.drewN d3).cell? a = some (.int .u32 (x : Int)) := (HB4.out.cell (p := a) HAB.out).trans HC0.out
  obtain ⟨d0, d1, d2, d3', d4, f0, f1, f2, f3, f4⟩ := itC_cells k4
  clear hown2 hb2 HQ HC HTK HC0 K2 HG k4
  go_wp2_with fail
  have hk := putIt_blk K4.out 0 ⟨#[]⟩ 0 false (x : Int)
  have hbl := putIt_below (g := w.heap.size) HB4.out (Nat.le_refl _) 0 ⟨#[]⟩ 0 false (x : Int)
  show bodyPost _ _ _ _ _ (putIt _ w.heap.size 0 ⟨#[]⟩ 0 false (x : Int))
  generalize putIt _ w.heap.size 0 ⟨#[]⟩ 0 false (x : Int) = W5 at hk hbl ⊢
  obtain ⟨e0, e1, e2, e3, e4, -⟩ := itC_cells hk
  clear hk
  exact bodyPost_ret (v := .tuple #[itA 0 ⟨#[]⟩ 0 false (x : Int), .int .i64 1]) (by simp [results, Tryd.results51, e0, e1, e2, e3, e4, go_sem]) rfl (HE.out _ hbl)

set_option maxRecDepth 100000 in
set_option maxHeartbeats 8000000 in
theorem first_raw_yes (tg : Nat → Nat) (v : Value) (xs : List Nat) (hx : ∀ c ∈ xs, c < 4294967296) (h0 : xs ≠ []) (hl : xs.length ≤ 64) (w : World) (hv : RdC w v xs) (hcs : TabsT tg w) (y : Nat) (c : Nat) (hg : guessC xs = ((rawIt y), c)) (hlen : c ≤ xs.length) (hq : cellsT tg (rawIt y) = xs.take c) :
    Calls Tryd.prog 51 #[v] w (FirstEnd (cellsT tg) w xs) := by
  obtain ⟨a, cap, rfl, hcap, hab, hcell⟩ := hv.first h0
  have hc0 : w.cell? a = some (.int .u32 (xs[0]'(List.length_pos_iff.2 h0) : Int)) := hcell 0 (List.length_pos_iff.2 h0)
  have hg0 : xs.getD 0 0 = xs[0]'(List.length_pos_iff.2 h0) := by rw [List.getD_eq_getElem?_getD, List.getElem?_eq_getElem (List.length_pos_iff.2 h0)]; rfl
  obtain ⟨x, hxx⟩ : ∃ x, xs[0]'(List.length_pos_iff.2 h0) = x := ⟨_, rfl⟩
  rw [hxx] at hc0 hg0
  have hpos : 0 < xs.length := List.length_pos_iff.2 h0
  have HG := Lib.hid (fun W (hb : Below w.heap.size w W) => impl_guess tg _ xs hx h0 hl W (hv.below hb) (hcs.below hb))
  unfold GuessEnd at HG
  rw [hg] at HG
  have hce : cellsT tg (rawIt y) = [y] := cellsT_raw tg y
  unfold FirstEnd
  rw [firstC_yes hg hlen hq]
  rw [show shapeV ((rawIt y), c).1 = .iface 114 (.agg #[.int .i64 0, .int .u32 (y : Int)]) from rfl] at HG
  have HC := Lib.hid (fun W (hb : Below w.heap.size w W) => (fun (_ : TabsT tg W) => raw_exact 0 y W) (hcs.below hb))
  have HTK := Lib.hid (hv.take c hlen)
  have hzl : ([y]).length ≤ 4611686018427387904 := by simp
  rw [hce] at hq
  obtain ⟨cs, hcs2⟩ : ∃ cs : List Nat, [y] = cs := ⟨_, rfl⟩
  rw [hcs2] at hq HC hzl
  have HZL := Lib.hid hzl
  have hd : decide (cs = xs.take c) = true := decide_eq_true hq
  have HQ : Hid (∀ W v2, RdN W v2 cs → RdN W (.slice (some a) c cap) (xs.take c) → Calls Tryd.prog 70 #[v2, .slice (some a) c cap] W fun e w' => e = .returned (.bool true) ∧ ∃ d, w' = W.drewN d) := Lib.hid (fun W v2 h1 h2 => by rw [← hd]; exact slequal_any v2 _ cs _ W h1 h2)
  have HE : Hid (∀ W, Below w.heap.size w W → (Ending.returned (.tuple #[itA 0 ⟨#[]⟩ 0 false (y : Int), .int .i64 (c : Int)]) = Ending.returned (.tuple #[itVal (rawIt y), .int .i64 ((c : Nat) : Int)]) ∧ Below w.heap.size w W)) := Lib.hid (fun W h => ⟨rfl, h⟩)
  obtain ⟨L, hL⟩ : ∃ L, xs.length = L := ⟨_, rfl⟩
  rw [hL] at HG hcap hlen hpos ⊢
  have j0i : (0 : Int) < (L : Int) := by omega
  have hle : (c : Int) ≤ (L : Int) := by omega
  have hle2 : (c : Int) ≤ (cap : Int) := by omega
  have hdc : decide (L < c) = false := decide_eq_false (by omega)
  have HAB := Lib.hid hab
  have HC0 := Lib.hid hc0
  clear hg hg0 hxx hx hcell hv hcs hL hl h0 hq hd hce hcs2 hzl hab hc0
  go_enter Tryd.func51, Tryd.ntmps51
  go_wp2_with fail
  refine (HG.out _ ((Below.refl _ _).alloc (Nat.le_refl _) _)).mono ?_
  rintro e w1 ⟨rfl, hb⟩
  obtain ⟨k2, hB, hlt⟩ := two_below hb
  have k2 : Blk w1 w.heap.size 57 (itC 0 ⟨#[]⟩ 0 false 0) := k2
  have K2 := Lib.hid k2
  have HB2 := Lib.hid hB
  have hslt := hlt
  clear hb k2 hB
  go_wp2_with fail
  go_region_held3 (fun _ => True) (first | trivial | go_keep) (first
    | (go_at_call 70; refine (HQ.out _ _ (RdN.of_own hown2 HZL.out) ((HTK.out.below HB3.out).1)).mono ?_; rintro e w3 ⟨rfl, d3, rfl⟩)
    | (go_at_call 132; refine (HC.out _ HB2.out.drew).mono ?_; rintro e w2 ⟨v2, rfl, hown2, hb2⟩; have HB3 := Lib.hid (HB2.out.drew.trans (hb2.mono HB2.out.size)); have K3 := Lib.hid (K2.out.drew.below hb2 K2.out.lt)))
  have HB4 := Lib.hid (below_drewN HB3.out d3)
  have K4 : Hid (Blk (w2.drewN d3) w.heap.size 57 (itC 0 ⟨#[]⟩ 0 false 0)) := Lib.hid K3.out
  clear hown2 hb2 HQ HC HTK HC0 K2 HG
  go_wp2_with fail
  refine (raw_item 0 (y : Int) _).mono ?_
  rintro e w4 ⟨rfl, hb4⟩
  have k5 := K4.out.below hb4 K4.out.lt
  have HB5 := Lib.hid (HB4.out.trans (hb4.mono HB4.out.size))
  have K5 := Lib.hid k5
  obtain ⟨d0, d1, d2, d3, d4, f0, f1, f2, f3, f4⟩ := itC_cells k5
  have hlt5 := k5.lt
  clear hb4 k5
  go_wp2_with fail
  have hk := putIt_blk K5.out 0 ⟨#[]⟩ 0 false (y : Int)
  have hbl := putIt_below (g := w.heap.size) HB5.out (Nat.le_refl _) 0 ⟨#[]⟩ 0 false (y : Int)
  show bodyPost _ _ _ _ _ (putIt _ w.heap.size 0 ⟨#[]⟩ 0 false (y : Int))
  generalize putIt _ w.heap.size 0 ⟨#[]⟩ 0 false (y : Int) = W5 at hk hbl ⊢
  obtain ⟨e0, e1, e2, e3, e4, -⟩ := itC_cells hk
  clear hk
  exact bodyPost_ret (v := .tuple #[itA 0 ⟨#[]⟩ 0 false (y : Int), .int .i64 (c : Int)]) (by simp [results, Tryd.results51, e0, e1, e2, e3, e4, go_sem]) rfl (HE.out _ hbl)

set_option maxRecDepth 100000 in
set_option maxHeartbeats 8000000 in
theorem first_raw_no (tg : Nat → Nat) (v : Value) (xs : List Nat) (hx : ∀ c ∈ xs, c < 4294967296) (h0 : xs ≠ []) (hl : xs.length ≤ 64) (w : World) (hv : RdC w v xs) (hcs : TabsT tg w) (y : Nat) (c : Nat) (hg : guessC xs = ((rawIt y), c)) (hlen : c ≤ xs.length) (hq : cellsT tg (rawIt y) ≠ xs.take c) :
    Calls Tryd.prog 51 #[v] w (FirstEnd (cellsT tg) w xs) := by
  obtain ⟨a, cap, rfl, hcap, hab, hcell⟩ := hv.first h0
  have hc0 : w.cell? a = some (.int .u32 (xs[0]'(List.length_pos_iff.2 h0) : Int)) := hcell 0 (List.length_pos_iff.2 h0)
  have hg0 : xs.getD 0 0 = xs[0]'(List.length_pos_iff.2 h0) := by rw [List.getD_eq_getElem?_getD, List.getElem?_eq_getElem (List.length_pos_iff.2 h0)]; rfl
  obtain ⟨x, hxx⟩ : ∃ x, xs[0]'(List.length_pos_iff.2 h0) = x := ⟨_, rfl⟩
  rw [hxx] at hc0 hg0
  have hpos : 0 < xs.length := List.length_pos_iff.2 h0
  have HG := Lib.hid (fun W (hb : Below w.heap.size w W) => impl_guess tg _ xs hx h0 hl W (hv.below hb) (hcs.below hb))
  unfold GuessEnd at HG
  rw [hg] at HG
  have hce : cellsT tg (rawIt y) = [y] := cellsT_raw tg y
  unfold FirstEnd
  rw [firstC_no hg (fun h => hq h.2), hg0]
  rw [show shapeV ((rawIt y), c).1 = .iface 114 (.agg #[.int .i64 0, .int .u32 (y : Int)]) from rfl] at HG
  have HC := Lib.hid (fun W (hb : Below w.heap.size w W) => (fun (_ : TabsT tg W) => raw_exact 0 y W) (hcs.below hb))
  have HTK := Lib.hid (hv.take c hlen)
  have hzl : ([y]).length ≤ 4611686018427387904 := by simp
  rw [hce] at hq
  obtain ⟨cs, hcs2⟩ : ∃ cs : List Nat, [y] = cs := ⟨_, rfl⟩
  rw [hcs2] at hq HC hzl
  have HZL := Lib.hid hzl
  have hd : decide (cs = xs.take c) = false := decide_eq_false hq
  have HQ : Hid (∀ W v2, RdN W v2 cs → RdN W (.slice (some a) c cap) (xs.take c) → Calls Tryd.prog 70 #[v2, .slice (some a) c cap] W fun e w' => e = .returned (.bool false) ∧ ∃ d, w' = W.drewN d) := Lib.hid (fun W v2 h1 h2 => by rw [← hd]; exact slequal_any v2 _ cs _ W h1 h2)
  have HE : Hid (∀ W, Below w.heap.size w W → (Ending.returned (.tuple #[itA 0 ⟨#[]⟩ 0 false (x : Int), .int .i64 1]) = Ending.returned (.tuple #[itVal (rawIt x), .int .i64 ((1 : Nat) : Int)]) ∧ Below w.heap.size w W)) := Lib.hid (fun W h => ⟨rfl, h⟩)
  obtain ⟨L, hL⟩ : ∃ L, xs.length = L := ⟨_, rfl⟩
  rw [hL] at HG hcap hlen hpos ⊢
  have j0i : (0 : Int) < (L : Int) := by omega
  have hle : (c : Int) ≤ (L : Int) := by omega
  have hle2 : (c : Int) ≤ (cap : Int) := by omega
  have hdc : decide (L < c) = false := decide_eq_false (by omega)
  have HAB := Lib.hid hab
  have HC0 := Lib.hid hc0
  clear hg hg0 hxx hx hcell hv hcs hL hl h0 hq hd hce hcs2 hzl hab hc0
  go_enter Tryd.func51, Tryd.ntmps51
  go_wp2_with fail
  refine (HG.out _ ((Below.refl _ _).alloc (Nat.le_refl _) _)).mono ?_
  rintro e w1 ⟨rfl, hb⟩
  obtain ⟨k2, hB, hlt⟩ := two_below hb
  have k2 : Blk w1 w.heap.size 57 (itC 0 ⟨#[]⟩ 0 false 0) := k2
  have K2 := Lib.hid k2
  have HB2 := Lib.hid hB
  have hslt := hlt
  clear hb k2 hB
  go_wp2_with fail
  go_region_held3 (fun _ => True) (first | trivial | go_keep) (first
    | (go_at_call 70; refine (HQ.out _ _ (RdN.of_own hown2 HZL.out) ((HTK.out.below HB3.out).1)).mono ?_; rintro e w3 ⟨rfl, d3, rfl⟩)
    | (go_at_call 132; refine (HC.out _ HB2.out.drew).mono ?_; rintro e w2 ⟨v2, rfl, hown2, hb2⟩; have HB3 := Lib.hid (HB2.out.drew.trans (hb2.mono HB2.out.size)); have K3 := Lib.hid (K2.out.drew.below hb2 K2.out.lt)))
  have HB4 := Lib.hid (below_drewN HB3.out d3)
  have k4 : Blk (w2.drewN d3) w.heap.size 57 (itC 0 ⟨#[]⟩ 0 false 0) := K3.out
  have K4 := Lib.hid k4
  have cc0 : (w2.drewN d3).cell? a = some (.int .u32 (x : Int)) := (HB4.out.cell (p := a) HAB.out).trans HC0.out
  obtain ⟨d0, d1, d2, d3', d4, f0, f1, f2, f3, f4⟩ := itC_cells k4
  clear hown2 hb2 HQ HC HTK HC0 K2 HG k4
  go_wp2_with fail
  have hk := putIt_blk K4.out 0 ⟨#[]⟩ 0 false (x : Int)
  have hbl := putIt_below (g := w.heap.size) HB4.out (Nat.le_refl _) 0 ⟨#[]⟩ 0 false (x : Int)
  show bodyPost _ _ _ _ _ (putIt _ w.heap.size 0 ⟨#[]⟩ 0 false (x : Int))
  generalize putIt _ w.heap.size 0 ⟨#[]⟩ 0 false (x : Int) = W5 at hk hbl ⊢
  obtain ⟨e0, e1, e2, e3, e4, -⟩ := itC_cells hk
  clear hk
  exact bodyPost_ret (v := .tuple #[itA 0 ⟨#[]⟩ 0 false (x : Int), .int .i64 1]) (by simp [results, Tryd.results51, e0, e1, e2, e3, e4, go_sem]) rfl (HE.out _ hbl)

theorem impl_first (tg : Nat → Nat) (v : Value) (xs : List Nat) (hx : ∀ c ∈ xs, c < 4294967296) (h0 : xs ≠ []) (hl : xs.length ≤ 64) (w : World) (hv : RdC w v xs) (hcs : TabsT tg w) : Calls Tryd.prog 51 #[v] w (FirstEnd (cellsT tg) w xs) := by
  rcases guess_is hx with ⟨k, nm, c, hg, hk, hs⟩ | ⟨k, n, b, c, hg, hk, -, -⟩ | ⟨nm, n, c, hg, hs, -, -⟩ | hg
  · by_cases hlen : c ≤ xs.length
    · by_cases hq : cellsT tg ⟨k, nm, 0, false, 0⟩ = xs.take c
      · exact first_word_yes tg v xs hx h0 hl w hv hcs k nm hk hs c hg hlen hq
      · exact first_word_no tg v xs hx h0 hl w hv hcs k nm hk hs c hg hlen hq
    · exact first_long tg v xs hx h0 hl w hv hcs _ c hg (by omega)
  · by_cases hlen : c ≤ xs.length
    · by_cases hq : cellsT tg ⟨k, noText, n, b, 0⟩ = xs.take c
      · exact first_num_yes tg v xs hx h0 hl w hv hcs k n b hk c hg hlen hq
      · exact first_num_no tg v xs hx h0 hl w hv hcs k n b hk c hg hlen hq
    · exact first_long tg v xs hx h0 hl w hv hcs _ c hg (by omega)
  · by_cases hlen : c ≤ xs.length
    · by_cases hq : cellsT tg ⟨9, nm, n, false, 0⟩ = xs.take c
      · exact first_var_yes tg v xs hx h0 hl w hv hcs nm n hs c hg hlen hq
      · exact first_var_no tg v xs hx h0 hl w hv hcs nm n hs c hg hlen hq
    · exact first_long tg v xs hx h0 hl w hv hcs _ c hg (by omega)
  · have hlen : 1 ≤ xs.length := List.length_pos_iff.2 h0
    by_cases hq : cellsT tg (rawIt (xs.getD 0 0)) = xs.take 1
    · exact first_raw_yes tg v xs hx h0 hl w hv hcs _ 1 hg hlen hq
    · exact first_raw_no tg v xs hx h0 hl w hv hcs _ 1 hg hlen hq
theorem rawIt_in {c : Nat} (h : c < 4294967296) : ItIn (rawIt c) := ⟨by show (-9223372036854775808 : Int) ≤ 0; decide, by show (0 : Int) ≤ 9223372036854775807; decide, by show (-2147483648 : Int) ≤ 0; decide, by show (0 : Int) ≤ 2147483647; decide, h, Nat.zero_le _⟩
theorem first_in (C : It → List Nat) {xs : List Nat} (hx : ∀ c ∈ xs, c < 4294967296) : ItIn (firstC C xs).1 ∧ (firstC C xs).1.name.size ≤ 672 := by
  have h0 : xs.getD 0 0 < 4294967296 := by
    rw [List.getD_eq_getElem?_getD]
    rcases Nat.lt_or_ge 0 xs.length with h | h
    · rw [List.getElem?_eq_getElem h]; exact hx _ (List.getElem_mem h)
    · rw [List.getElem?_eq_none h]; decide
  unfold firstC
  split
  · rcases guess_is hx with ⟨k, nm, c, hg, hk, hs⟩ | ⟨k, n, b, c, hg, hk, h1, h2⟩ | ⟨nm, n, c, hg, hs, h1, h2⟩ | hg
    · have hk := of_decide_eq_true hk
      rw [hg]
      exact ⟨⟨by show (-9223372036854775808 : Int) ≤ k; omega, by show k ≤ (9223372036854775807 : Int); omega, by show (-2147483648 : Int) ≤ 0; decide, by show (0 : Int) ≤ 2147483647; decide, by show 0 < 4294967296; decide, by show nm.size ≤ _; omega⟩, hs⟩
    · have hk := of_decide_eq_true hk
      rw [hg]
      exact ⟨⟨by show (-9223372036854775808 : Int) ≤ k; omega, by show k ≤ (9223372036854775807 : Int); omega, h1, h2, by show 0 < 4294967296; decide, Nat.zero_le _⟩, Nat.zero_le _⟩
    · rw [hg]
      exact ⟨⟨by show (-9223372036854775808 : Int) ≤ 9; decide, by show (9 : Int) ≤ 9223372036854775807; decide, h1, h2, by show 0 < 4294967296; decide, by show nm.size ≤ _; omega⟩, hs⟩
    · rw [hg]
      exact ⟨rawIt_in h0, Nat.zero_le _⟩
  · exact ⟨rawIt_in h0, Nat.zero_le _⟩
end Go.Proofs.YtllhcdkbgknjdaaDoor

namespace Go.Proofs.YtllhcdkbgknjdaaDoor
open Go.RowKit Go

def itv : List It → List Value
  | [] => []
  | s :: r => .int .i64 s.kind :: .string s.name :: .int .i32 s.n :: .bool s.hex :: .int .u32 (s.raw : Int) :: itv r
theorem itv_len (xs : List It) : (itv xs).length = xs.length * 5 := by
  induction xs with
  | nil => rfl
  | cons s r ih => simp only [itv, List.length_cons, ih]; omega
theorem itv_app (xs ys : List It) : itv (xs ++ ys) = itv xs ++ itv ys := by
  induction xs with
  | nil => rfl
  | cons s r ih => simp only [itv, List.cons_append, ih]
theorem itv_get {xs : List It} {i : Nat} (h : i < xs.length) : (itv xs)[i * 5]? = some (.int .i64 xs[i].kind) ∧ (itv xs)[i * 5 + 1]? = some (.string xs[i].name) ∧ (itv xs)[i * 5 + 2]? = some (.int .i32 xs[i].n) ∧ (itv xs)[i * 5 + 3]? = some (.bool xs[i].hex) ∧ (itv xs)[i * 5 + 4]? = some (.int .u32 (xs[i].raw : Int)) := by
  induction xs generalizing i with
  | nil => simp at h
  | cons s r ih =>
    cases i with
    | zero => simp [itv]
    | succ i =>
      have h2 := ih (i := i) (by simpa using h)
      rw [show (i + 1) * 5 = i * 5 + 5 by omega]
      refine ⟨?_, ?_, ?_, ?_, ?_⟩
      · simpa [itv] using h2.1
      · rw [show i * 5 + 5 + 1 = i * 5 + 1 + 5 by omega]; simpa [itv] using h2.2.1
      · rw [show i * 5 + 5 + 2 = i * 5 + 2 + 5 by omega]; simpa [itv] using h2.2.2.1
      · rw [show i * 5 + 5 + 3 = i * 5 + 3 + 5 by omega]; simpa [itv] using h2.2.2.2.1
      · rw [show i * 5 + 5 + 4 = i * 5 + 4 + 5 by omega]; simpa [itv] using h2.2.2.2.2
theorem itv_one : ∀ (xs : List It), ∀ u ∈ itv xs, u.oneCell' = true := by
  intro xs
  induction xs with
  | nil => intro u hu; cases hu
  | cons s r ih =>
    intro u hu
    simp only [itv, List.mem_cons] at hu
    rcases hu with rfl | rfl | rfl | rfl | rfl | hu
    · rfl
    · rfl
    · rfl
    · rfl
    · rfl
    · exact ih u hu
theorem itv_take (xs : List It) (n : Nat) : (itv xs).take (n * 5) = itv (xs.take n) := by
  induction xs generalizing n with
  | nil => simp [itv]
  | cons s r ih =>
    cases n with
    | zero => simp [itv]
    | succ n =>
      rw [show (n + 1) * 5 = n * 5 + 5 by omega]
      simp [itv, ih]
/-- A list of items that can be read. -/
def RdT (w : World) (v : Value) (xs : List It) : Prop :=
  ∃ (A : Option Addr) (cap : Nat), v = .slice A xs.length cap ∧ xs.length ≤ 1000000 ∧ xs.length ≤ cap ∧ ∀ i (h : i < xs.length), ∃ a, A = some a ∧ a.block < w.heap.size ∧ w.cell? (a.add (i * 5)) = some (.int .i64 xs[i].kind) ∧ w.cell? ((a.add (i * 5)).add 1) = some (.string xs[i].name) ∧ w.cell? ((a.add (i * 5)).add 2) = some (.int .i32 xs[i].n) ∧ w.cell? ((a.add (i * 5)).add 3) = some (.bool xs[i].hex) ∧ w.cell? ((a.add (i * 5)).add 4) = some (.int .u32 (xs[i].raw : Int))
theorem RdT.below {w w' : World} {v : Value} {xs : List It} (h : RdT w v xs) (hb : Below w.heap.size w w') : RdT w' v xs := by
  obtain ⟨A, cap, rfl, hl, hcp, hc⟩ := h
  refine ⟨A, cap, rfl, hl, hcp, fun i hi => ?_⟩
  obtain ⟨a, rfl, e2, e3, e4, e5, e6, e7⟩ := hc i hi
  have hk : ∀ j, (((a.add (i * 5)).add j)).block < w.heap.size := fun j => by rw [addr_addb, addr_addb]; exact e2
  exact ⟨a, rfl, by have := hb.size; omega, (hb.cell (by rw [addr_addb]; exact e2)).trans e3, (hb.cell (hk 1)).trans e4, (hb.cell (hk 2)).trans e5, (hb.cell (hk 3)).trans e6, (hb.cell (hk 4)).trans e7⟩
theorem RdT.of_own {w : World} {base : Nat} {e : TypeId} {v : Value} {xs : List It} (h : w.ownsRow base e 5 v xs.length (itv xs)) (hl : xs.length ≤ 1000000) : RdT w v xs := by
  rcases h.2 with ⟨rfl, h0⟩ | ⟨g, cap, cur, rfl, hb, hg, hn, hm, hsz, ht⟩
  · exact ⟨none, 0, by rw [h0], hl, by omega, fun i hi => by omega⟩
  · refine ⟨_, cap, rfl, hl, hn, fun i hi => ?_⟩
    obtain ⟨q0, q1, q2, q3, q4⟩ := itv_get hi
    have key : ∀ j v, j < 5 → (itv xs)[i * 5 + j]? = some v → w.cell? ⟨g, i * 5 + j, none⟩ = some v := fun j v hj hq => by
      rw [cell_of_row w g (i * 5 + j) cur e (0, 0) hg]
      have h1 := congrArg (·[i * 5 + j]?) ht
      simp only [hq, List.getElem?_take] at h1
      rw [if_pos (by omega)] at h1
      simpa using h1
    refine ⟨⟨g, 0, none⟩, rfl, (Array.getElem?_eq_some_iff.1 hg).1, ?_⟩
    rw [addr_lit, Nat.zero_add, addr_lit, addr_lit, addr_lit, addr_lit]
    exact ⟨key 0 _ (by omega) q0, key 1 _ (by omega) q1, key 2 _ (by omega) q2, key 3 _ (by omega) q3, key 4 _ (by omega) q4⟩
theorem RdT.form {w : World} {v : Value} {xs : List It} (h : RdT w v xs) : ∃ A cap, v = .slice A xs.length cap := by
  obtain ⟨A, cap, e, -⟩ := h
  exact ⟨A, cap, e⟩
/-- A new list of items. -/
def NewT (w : World) (xs : List It) (e : Ending) (w' : World) : Prop := ∃ v, e = .returned v ∧ w'.ownsRow w.heap.size 57 5 v xs.length (itv xs) ∧ Below w.heap.size w w'
theorem infoIt : (Tryd.prog.info? 57).map (fun i => (i.zero, i.size, i.bytes)) = some (some (itA 0 ⟨#[]⟩ 0 false 0), 5, 40) := by kernel_rfl
theorem ownB {w w' : World} {base : Nat} {e : TypeId} {size : Nat} {v : Value} {n : Nat} {xs : List Value} (h : w.ownsRow base e size v n xs) (hb : Below w.heap.size w w') : w'.ownsRow base e size v n xs := by
  obtain ⟨h1, h2⟩ := h
  refine ⟨h1, ?_⟩
  rcases h2 with h2 | ⟨g, cap, cur, e1, e2, e3, e4⟩
  · exact .inl h2
  · exact .inr ⟨g, cap, cur, e1, e2, (hb.block g (Array.getElem?_eq_some_iff.1 e3).1).trans e3, e4⟩
/-- An owned list cut behind. -/
theorem own_takeT {w : World} {base : Nat} {e : TypeId} {g cap : Nat} {xs : List It} {n : Nat} (h : w.ownsRow base e 5 (.slice (some ⟨g, 0, none⟩) xs.length cap) xs.length (itv xs)) (hn : n ≤ xs.length) : w.ownsRow base e 5 (.slice (some ⟨g, 0, none⟩) n cap) n (itv (xs.take n)) := by
  rcases h.2 with ⟨h1, _⟩ | ⟨g2, cap2, cur, h1, hb, hg, hc, hm, hsz, ht⟩
  · cases h1
  · injection h1 with h1 h2 h3
    injection h1 with h1
    injection h1 with h1
    subst h1 h3
    refine ⟨by rw [itv_len, List.length_take]; omega, .inr ⟨g, cap, cur, rfl, hb, hg, by omega, hm, hsz, ?_⟩⟩
    rw [← itv_take, ← ht, List.take_take]
    congr 1
    omega
end Go.Proofs.YtllhcdkbgknjdaaDoor

namespace Go.Proofs.YtllhcdkbgknjdaaDoor
open Go.RowKit Go

theorem addr_add2' (a : Addr) (m n : Nat) : (a.add m).add n = a.add (m + n) := by
  by_cases hm : m = 0
  · subst hm; rw [Nat.zero_add]; rfl
  · by_cases hn : n = 0
    · subst hn; rw [Nat.add_zero]; unfold Addr.add; simp
    · unfold Addr.add
      rw [if_neg hm, if_neg hn, if_neg (by omega)]
      simp [Nat.add_assoc]
theorem RdC.drop {w : World} {a : Addr} {n cap : Nat} {xs : List Nat} (h : RdC w (.slice (some a) n cap) xs) (k : Nat) (hk : k ≤ xs.length) : RdC w (.slice (if cap = k then some a else some (a.add k)) (xs.length - k) (cap - k)) (xs.drop k) := by
  obtain ⟨⟨A, cap1, hv1, hl, hc⟩, B, cap2, hv, hle⟩ := h
  injection hv with h1 h2 h3
  subst h1 h2 h3
  injection hv1 with h1 h2 h3
  subst h1 h3
  have hlt : (xs.drop k).length = xs.length - k := List.length_drop
  refine ⟨⟨_, _, by rw [hlt], by omega, fun i hi => ?_⟩, _, _, by rw [hlt], by omega⟩
  obtain ⟨a2, e, hb, h2⟩ := hc (k + i) (by omega)
  injection e with e
  subst e
  rw [if_neg (by omega)]
  exact ⟨a.add k, rfl, by rw [addr_addb]; exact hb, by rw [addr_add2', h2, List.getElem_drop]⟩
/-- Where parsing stands: 'pre' is read, 'rest' is left. -/
structure ParseAt (C : It → List Nat) (l pre : List It) (rest : List Nat) (n : Nat) : Prop where
  go : ∃ m, Parses C rest m ∧ l = pre ++ m
  sm : ∀ c ∈ rest, c < 4294967296
  len : pre.length + rest.length ≤ n
  inn : ∀ it ∈ pre, ItIn it ∧ it.name.size ≤ 672
theorem ParseAt.done {C : It → List Nat} {l pre : List It} {n : Nat} (h : ParseAt C l pre [] n) : l = pre := by
  obtain ⟨m, hm, e⟩ := h.go
  cases hm with
  | nil => rw [e, List.append_nil]
  | step h0 _ => exact absurd rfl h0
theorem ParseAt.more {C : It → List Nat} {l pre : List It} {rest : List Nat} {n : Nat} (h : ParseAt C l pre rest n) (h0 : rest ≠ []) : ParseAt C l (pre ++ [(firstC C rest).1]) (rest.drop (firstC C rest).2) n := by
  obtain ⟨m, hm, e⟩ := h.go
  have h1 := firstC_pos C rest
  have h2 := firstC_le C h0
  cases hm with
  | nil => exact absurd rfl h0
  | step _ hm =>
    refine ⟨⟨_, hm, by rw [e, List.append_assoc]; rfl⟩, fun c hc => h.sm c (List.mem_of_mem_drop hc), ?_, ?_⟩
    · rw [List.length_append, List.length_singleton, List.length_drop]
      have := h.len
      omega
    · intro it hit
      rcases List.mem_append.1 hit with h3 | h3
      · exact h.inn it h3
      · rw [List.mem_singleton.1 h3]
        exact first_in C h.sm
theorem five_new (w : World) (o : Obj) (t : TypeId) (it : It) : ∀ j u, (itv [it])[j]? = some u → ((w.alloc o).alloc (.cells (itC it.kind it.name it.n it.hex (it.raw : Int)) t)).cell? (Addr.add ⟨w.heap.size + 1, 0, none⟩ j) = some u := by
  intro j u h
  rw [addr_lit, Nat.zero_add]
  have k := Blk.new (w.alloc o) t (itC it.kind it.name it.n it.hex (it.raw : Int))
  rw [show (w.alloc o).heap.size = w.heap.size + 1 by simp] at k
  rw [k.cell j, ← h, ← Array.getElem?_toList]
  rfl
theorem it_eta (it : It) : itv [it] = [.int .i64 it.kind, .string it.name, .int .i32 it.n, .bool it.hex, .int .u32 (it.raw : Int)] := rfl

set_option maxRecDepth 100000 in
set_option maxHeartbeats 8000000 in
theorem impl_parse (tg : Nat → Nat) (v : Value) (xs : List Nat) (hx : ∀ c ∈ xs, c < 4294967296) (hl : xs.length ≤ 64) (w : World) (hv : RdC w v xs) (hcs : TabsT tg w) (l : List It) (hp : Parses (cellsT tg) xs l) :
    Calls Tryd.prog 29 #[v] w (NewT w (trimI l)) := by
  obtain ⟨i0, hi0, hz0, hz1, hz2⟩ := info_parts infoIt
  have HP0 : Hid (ParseAt (cellsT tg) l [] xs 64) := Lib.hid ⟨⟨l, hp, rfl⟩, hx, by simpa using hl, fun _ h => absurd h List.not_mem_nil⟩
  have HV0 := Lib.hid hv
  obtain ⟨-, A, cap, rfl, hcap⟩ := hv
  have HCS := Lib.hid hcs
  have hlt : ¬ 64 < xs.length := by omega
  have hli : (xs.length : Int) ≤ 64 := by omega
  clear hcs hx hp
  go_enter Tryd.func29, Tryd.ntmps29
  go_wp2_with fail
  go_loopw [3, 4] (fun vo vl wr => ∃ (pre : List It) (rest : List Nat), Hid (ParseAt (cellsT tg) l pre rest 64) ∧ Hid (RdC w vl rest) ∧ wr.ownsRow w.heap.size 57 5 vo pre.length (itv pre) ∧ Below w.heap.size w wr) (fun _ vl _ => match vl with | .slice _ n _ => n | _ => 0)
  case atStart => exact ⟨[], xs, HP0, HV0, World.ownsRow_nil _ _ _ _, Below.refl _ _⟩
  case round =>
    obtain ⟨pre, rest, HA, HV, hown, hB⟩ := hrel
    by_cases h0 : rest = []
    · subst h0
      have hlp := HA.out.done
      subst hlp
      have hl64 := HA.out.len
      obtain ⟨-, A2, cap2, rfl, -⟩ := HV.out
      have HB := Lib.hid hB
      have HO := Lib.hid hown
      have hl64' : l.length ≤ 64 := by simpa using hl64
      rcases hown.2 with ⟨rfl, hz⟩ | ⟨g, c3, cur, rfl, -, -, hc3, -⟩
      · have hlz : l = [] := List.eq_nil_of_length_eq_zero hz
        clear HA HP0 HV hB hown HV0 HCS hl64
        go_wp2_with fail
        go_loop [3] (fun vo => vo = .slice none 0 0) (fun _ => 0)
        case atStart => rfl
        case round =>
          subst hrel
          go_wp2_with fail
          go_ret
          exact ⟨_, rfl, World.ownsRow_nil _ _ _ _, HB.out⟩
      · clear HA HP0 HV hB hown HV0 HCS hl64
        go_wp2_with fail
        go_loop [3] (fun vo => ∃ m : Nat, vo = .slice (some ⟨g, 0, none⟩) m c3 ∧ m ≤ l.length ∧ Hid (trimI (l.take m) = trimI l)) (fun vo => match vo with | .slice _ n _ => n | _ => 0)
        case atStart => exact ⟨l.length, rfl, Nat.le_refl _, Lib.hid (by rw [List.take_length])⟩
        case round =>
          obtain ⟨m, rfl, hm, HT⟩ := hrel
          by_cases hp : 0 < m
          · obtain ⟨j, rfl⟩ : ∃ j, m = j + 1 := ⟨m - 1, by omega⟩
            have hj : j < l.length := by omega
            have hrd := RdT.of_own HO.out (by omega)
            obtain ⟨A3, c4, hv4, -, -, hc4⟩ := hrd
            injection hv4 with e1 e2 e3
            subst e1 e3
            obtain ⟨a3, e4, -, q0, q1, q2, q3, q4⟩ := hc4 j hj
            injection e4 with e4
            subst e4
            rw [addr_lit, Nat.zero_add] at q0 q1 q2 q3 q4
            rw [addr_lit] at q1 q2 q3 q4
            have htk : l.take (j + 1) = l.take j ++ [l[j]] := List.take_succ_eq_append_getElem hj
            obtain ⟨it, hit⟩ : ∃ it, l[j] = it := ⟨_, rfl⟩
            rw [hit] at q0 q1 q2 q3 q4 htk
            clear hit hc4
            by_cases hz : it = zeroIt
            · have HT2 : Hid (trimI (l.take j) = trimI l) := Lib.hid (by rw [← HT.out, htk, hz, trimI_zero])
              have hq : ∀ W : World, (binOp .eql 57 (itVal it) (itA 0 ⟨#[]⟩ 0 false 0)).run Tryd.prog W = .ok (.bool true) W := fun W => by
                have h := item_eql W it zeroIt
                rw [decide_eq_true hz] at h
                exact h
              obtain ⟨kd, nm, n, hx, r⟩ := it
              clear hz htk HT
              go_wp2_with fail
              go_round
              case rel => exact ⟨j, rfl, by omega, HT2⟩
              case measure => show j < j + 1; omega
            · have HT2 : Hid (trimI l = l.take (j + 1)) := Lib.hid (by rw [← HT.out, htk, trimI_last _ _ hz])
              have hq : ∀ W : World, (binOp .eql 57 (itVal it) (itA 0 ⟨#[]⟩ 0 false 0)).run Tryd.prog W = .ok (.bool false) W := fun W => by
                have h := item_eql W it zeroIt
                rw [decide_eq_false hz] at h
                exact h
              obtain ⟨kd, nm, n, hx, r⟩ := it
              clear hz htk HT
              go_wp2_with fail
              go_ret
              rw [HT2.out]
              have hlt : (l.take (j + 1)).length = j + 1 := by rw [List.length_take]; omega
              exact ⟨_, rfl, by rw [hlt]; exact own_takeT HO.out (by omega), HB.out⟩
          · obtain rfl : m = 0 := by omega
            have HT2 : Hid (trimI l = []) := Lib.hid (by rw [← HT.out]; rfl)
            clear HT
            go_wp2_with fail
            go_ret
            rw [HT2.out]
            exact ⟨_, rfl, own_takeT HO.out (n := 0) (by omega), HB.out⟩
    · obtain ⟨a, cap2, rfl, hcap2, hab, -⟩ := HV.out.first h0
      have hlen := HA.out.len
      have HF := Lib.hid (impl_first tg _ rest HA.out.sm h0 (by omega) wr (HV.out.below hB) (HCS.out.below hB))
      have HM := Lib.hid (HA.out.more h0)
      have hk := firstC_le (cellsT tg) h0
      have hk1 := firstC_pos (cellsT tg) rest
      have HD := Lib.hid (HV.out.drop (firstC (cellsT tg) rest).2 hk)
      unfold FirstEnd at HF
      obtain ⟨it, k, hik⟩ : ∃ it k, firstC (cellsT tg) rest = (it, k) := ⟨_, _, rfl⟩
      rw [hik] at HF HM HD hk hk1
      have hpos : 0 < rest.length := List.length_pos_iff.2 h0
      have hki : (k : Int) ≤ (rest.length : Int) := by have : k ≤ rest.length := hk; omega
      obtain ⟨kd, nm, n, hx, r⟩ := it
      have HB := Lib.hid hB
      have HO := Lib.hid hown
      clear hik hk h0 hB HV HA
      go_wp2_with fail
      refine HF.out.mono ?_
      rintro e w1 ⟨rfl, hb⟩
      have HB1 := Lib.hid (HB.out.trans (hb.mono HB.out.size))
      have HO1 := Lib.hid (ownB HO.out hb)
      have hb1 := HB1.out.size
      have hpl : pre.length ≤ 64 := by omega
      clear hb HO HF
      go_wp2_with (at_builtin; refine wpList_append_own _ rfl _ _ 26 rfl w.heap.size 57 i0 (itA 0 ⟨#[]⟩ 0 false 0) 5 40 Tryd.underlying26 hi0 hz0 hz1 hz2 rfl (by decide) _ pre.length _ rfl ((HO1.out.alloc _).alloc _) ⟨w1.heap.size + 1, 0, none⟩ 1 1 (itv [⟨kd, nm, n, hx, r⟩]) rfl rfl (five_new w1 _ _ ⟨kd, nm, n, hx, r⟩) (itv_one _) (by unfold maxLen; omega) (by omega) (by simp; omega) ?_; intro v' w2 hown' hgrow hif; clear hif)
      have HO2 : Hid (w2.ownsRow w.heap.size 57 5 v' (pre ++ [(⟨kd, nm, n, hx, r⟩ : It)]).length (itv (pre ++ [⟨kd, nm, n, hx, r⟩]))) := Lib.hid (by rw [itv_app, List.length_append]; exact hown')
      have HB2 := Lib.hid (((HB1.out.alloc hb1 _).alloc (by simp; omega) _).grown hgrow (by simp; omega) (own_lt HO1.out))
      clear hown' hgrow HO1
      go_roundw
      case rel => exact ⟨pre ++ [⟨kd, nm, n, hx, r⟩], rest.drop k, HM, HD, HO2.out, HB2.out⟩
      case measure => show rest.length - k < rest.length; omega
end Go.Proofs.YtllhcdkbgknjdaaDoor
