/-
  impl.Lines answers a new list: the parts of a text between newlines, without the last one where that is empty.
  Plain mathematics of decimal texts, no program: how the digits of a number are gathered from the last one on.
  Plain mathematics of reading decimal texts, no program: which number a text of digits is, and that a number's decimal text is read back.
  How many lines a listing has: one a step.
  spec.DefsOk.
  impl.Lines as it is called.
  laws.FnCode answers true at all bytes.
-/
import Derived.Test.YtofikgjoiidhmaaGreatDoorCD11
import Derived.Deep.AppendLies
import Derived.Lib.ItoaNum
import Derived.Lib.ItoaLen
import Derived.Test.YtofikgjoiidhmaaGreatDoorCD9
import Derived.Test.YtofikgjoiidhmaaGreatDoorCD4
import Derived.Handy
import Derived.IntWalk
import Derived.Test.YtofikgjoiidhmaaGreatDoorCD10
namespace Go.Proofs.YtofikgjoiidhmaaGreatDoor
open Go.RowKit Go.Shelf Go

attribute [local go_sem] Oper.semAt_some

theorem infoStr : (Tryz.prog.info? 9).map (fun i => (i.zero, i.size, i.bytes)) = some (some (.string ⟨#[]⟩), 1, 16) := by kernel_rfl

theorem partsOf_ne (q : Int → Bool) (s : ByteArray) : partsOf q s ≠ [] := by
  unfold partsOf
  simpa using splitB_ne _ _
theorem partsOf_len (q : Int → Bool) (s : ByteArray) : (partsOf q s).length ≤ s.size + 1 := by
  unfold partsOf
  have := splitB_length (onByte q) s.data.toList
  simp at this ⊢
  omega
/-- The lines of a text. -/
def linesOf (s : ByteArray) : List ByteArray := if ((partsOf qNl s).getLast (partsOf_ne _ _)).size = 0 then (partsOf qNl s).dropLast else partsOf qNl s
/-- A new list of texts. -/
def NewStrs (w : World) (ls : List ByteArray) (e : Ending) (w' : World) : Prop := ∃ v, e = .returned v ∧ w'.ownsRow w.heap.size 9 1 v ls.length (ls.map Value.string) ∧ Below w.heap.size w w'

theorem ownsRow_take {W : World} {base : Nat} {e : TypeId} {g cap n m : Nat} {xs : List Value} (h : W.ownsRow base e 1 (.slice (some ⟨g, 0, none⟩) n cap) n xs) (hm : m ≤ n) (hc : n ≤ cap) : W.ownsRow base e 1 (.slice (some ⟨g, 0, none⟩) m cap) m (xs.take m) := by
  obtain ⟨h0, h1⟩ := h
  refine ⟨by simp at h0 ⊢; omega, ?_⟩
  rcases h1 with ⟨h2, _⟩ | ⟨g', cap', cur, h2, hb, hh, hn, hm2, hsz, ht⟩
  · cases h2
  · injection h2 with e1 e2 e3
    injection e1 with e1
    injection e1 with e1
    subst e1 e3
    refine .inr ⟨g, cap, cur, rfl, hb, hh, by omega, hm2, hsz, ?_⟩
    rw [← ht, List.take_take]
    congr 1; omega

theorem ownsRow_low {W : World} {base base' : Nat} {e : TypeId} {size : Nat} {v : Value} {n : Nat} {xs : List Value} (h : W.ownsRow base e size v n xs) (hb : base' ≤ base) : W.ownsRow base' e size v n xs := by
  refine ⟨h.1, ?_⟩
  rcases h.2 with h1 | ⟨g, cap, cur, h2, hg, r⟩
  · exact .inl h1
  · exact .inr ⟨g, cap, cur, h2, by omega, r⟩
theorem exists_snoc {α : Type} {l : List α} (h : l ≠ []) : ∃ init lst, l = init ++ [lst] := ⟨l.dropLast, l.getLast h, (List.dropLast_concat_getLast h).symm⟩
theorem linesOf_eq (s : ByteArray) (init : List ByteArray) (lst : ByteArray) (h : partsOf qNl s = init ++ [lst]) : linesOf s = if lst.size = 0 then init else init ++ [lst] := by
  unfold linesOf
  have h1 : (partsOf qNl s).getLast (partsOf_ne _ _) = lst := by simp [h]
  rw [h1, h]
  simp

set_option maxRecDepth 100000 in
set_option maxHeartbeats 4000000 in
theorem impl_lines_in (s : ByteArray) (hs : s.size ≤ 1048576) (w : World) :
    CallsIn Fence.wide 9 Tryz.prog 12 #[.string s] w (NewStrs w (linesOf s)) := by
  obtain ⟨i0, hi, hz0, hz1, hz2⟩ := info_parts infoStr
  have hN := partsOf_len qNl s
  refine callsIn_of_wp_marks Tryz.func12 rfl trivial ?_ rfl
  simp only [Tryz.ntmps12, List.size_toArray, List.length_cons, List.length_nil, Nat.reduceAdd, Nat.reduceSub, Array.replicate_succ, Array.replicate_zero, List.push_toArray, List.append_toArray, List.nil_append, List.cons_append]
  have hB1 : Below w.heap.size w (w.alloc (.cells #[.slice none 0 0] 33)) := (Below.refl _ w).alloc (Nat.le_refl _) _
  have bO := Boxed.new w 33 (.slice none 0 0)
  gi_wp2
  refine ⟨trivial, ?_⟩
  refine (callsIn_wide.2 (parts_any s 38 _)).mono ?_
  rintro e w1 ⟨rfl, hw1⟩
  have hb2 : Below w.heap.size w w1 := by rw [hw1]; exact hB1.trans ((boxed2_below _ _ _).mono (by simp))
  have bO1 : Boxed w1 w.heap.size 33 (.slice none 0 0) := by rw [hw1]; exact (bO.alloc _).alloc _
  have hsz1 : w1.heap.size = w.heap.size + 3 := by rw [hw1, boxed2_size]; simp
  have hst := stops_nl 8 (by omega) s hs w1 _ w.heap.size (by simp) hw1
  rw [World.size_alloc] at hst
  clear hw1
  have HSZ := Lib.hid hsz1
  clear hsz1
  gi_wp2
  have HN := Lib.hid hN
  have hsz1 := HSZ.out
  refine wpIn_rangeFunc_ownG rfl (by omega) (gf := 81) (lb := #[.pointer (some ⟨w.heap.size + 1, 0, none⟩), .pointer (some ⟨w.heap.size + 1 + 1, 0, none⟩)]) rfl trivial (enters_of Tryz.func81 (by kernel_rfl) rfl)
    hst kept_t (kept_b (by omega)) (Below.refl _ _) (fun _ => rfl)
    (fun pre W => (∃ v, Boxed W w.heap.size 33 v ∧ W.ownsRow (w.heap.size + 3) 9 1 v pre.length (pre.map Value.string) ∧ True) ∧ Below w.heap.size w W ∧ w.heap.size + 3 ≤ W.heap.size)
    (fun _ _ _ => False)
    (OwnFrom.and (Own.from (holdsRow_own (w.heap.size + 3) w.heap.size 33 9 1 (fun (pre : List ByteArray) => pre.length) (fun (pre : List ByteArray) => pre.map Value.string) (fun _ _ => True)) _) (OwnFrom.and (ownFrom_below (Nat.le_refl _) (by omega)) (Own.from (fun _ W W' _ h hg _ => Nat.le_trans h hg.size) _)))
    (fun _ _ _ _ _ hs _ _ => hs)
    ⟨⟨_, bO1, World.ownsRow_nil _ _ _ _, trivial⟩, hb2, by omega⟩
    (fun x => { tmps := #[.string s, undef, .slice none 0 0, .pointer (some ⟨w.heap.size, 0, none⟩), .string x, undef, .string s, .func (.func 81) #[] #[.pointer (some ⟨w.heap.size + 1, 0, none⟩), .pointer (some ⟨w.heap.size + 1 + 1, 0, none⟩)], .string x, undef, undef, undef, undef, undef, undef, undef, undef, undef, undef, undef, undef, undef, undef, undef, undef], defers := [] }) ?assign ?body ?done ?stop
  case assign =>
    intro l x W K hK
    gi_wp2
    exact hK
  case body =>
    rintro l pre x W ⟨⟨v, hv, hrow, -⟩, hB, hB3⟩ hlt
    have hc := hv.cell
    gi_wp2_with (gi_at_builtin; refine wpListIn_append_own _ rfl _ _ 33 rfl (w.heap.size + 3) 9 i0 (.string ⟨#[]⟩) 1 16 Tryz.underlying33 hi hz0 hz1 hz2 rfl (by decide) _ _ _ rfl (hrow.alloc _) ⟨W.heap.size, 0, none⟩ 1 1 [.string x] rfl rfl (cell_one_new _ _ _) (by simp [Value.oneCell']) (by unfold maxLen; have := HN.out; omega) (by have := HN.out; omega) (by simp; omega) ?_; intro v' w1 hown' hgrow _; obtain ⟨g', cap', rfl⟩ := ownsRow_succ hown'; obtain ⟨hv1, hv2, hr2, hk2, hm2, hb2⟩ := appended2 hv (by decide) hrow hB3 (by omega) hown' hgrow; have hc1 := hv1.cell; have hf1 := hv1.frozen)
    exact ⟨hk2.from _, ⟨hm2, hk2.walks⟩, ⟨_, hv2, by simpa using hr2, trivial⟩, hB.trans hb2, by have := hb2.size; omega⟩
  case done =>
    rintro D ys W hD rfl ⟨⟨v, hv, hrow, -⟩, hB, hB3⟩ hK
    have hc := hv.cell
    have hD2 : w.heap.size ≤ D := by omega
    have hend := linesOf_eq s
    obtain ⟨init, lst, hps⟩ := exists_snoc (partsOf_ne qNl s)
    have hL := hend init lst hps
    rw [hps] at hrow
    clear hend
    obtain ⟨g, cap, rfl, hgb, hglt⟩ := hrow.form (by simp)
    have hcell : W.cell? ⟨g, init.length, none⟩ = some (.string lst) := by
      have := hrow.cells (g := g) rfl init.length (.string lst) (by simp)
      have e : (⟨g, 0, none⟩ : Addr).add init.length = ⟨g, init.length, none⟩ := by unfold Addr.add; split <;> simp_all
      rwa [e] at this
    have hcap : init.length + 1 ≤ cap := by
      rcases hrow.2 with ⟨h, _⟩ | ⟨g', cap', cur, h, _, _, hn, _⟩
      · cases h
      · injection h with _ _ h3
        subst h3
        simpa using hn
    have hlen : init.length + 1 ≤ 1048577 := by have := HN.out; rw [hps] at this; simp at this; omega
    have hcap2 : cap ≤ 9223372036854775807 := by
      rcases hrow.2 with ⟨h, _⟩ | ⟨g', cap', cur, h, _, _, _, hm, _⟩
      · cases h
      · injection h with _ _ h3
        subst h3
        unfold maxLen at hm; omega
    have HR := Lib.hid hrow
    have HL := Lib.hid hL
    have HBE : Hid (Below w.heap.size w (W.putObj D (.deferred none))) := Lib.hid (hB.trans (belowK_b (w := w) (Nat.le_refl _) W D _ _ hD2 hK rfl rfl))
    clear hrow hL hps hB
    simp only [List.length_append, List.length_cons, List.length_nil] at *
    by_cases he : lst.size = 0
    · have he1 : lst.toList.isEmpty = true := by
        rw [ByteArray.toList_eq]
        have : lst.data.toList.length = 0 := by simpa using he
        rw [List.length_eq_zero_iff.1 this]; rfl
      have HE := Lib.hid he
      clear he
      gi_wp2
      refine ⟨by simp, .inl ⟨_, _, rfl, run_takeDeferred hK, ?_⟩⟩
      refine ⟨_, results_tmp rfl _ _ _, ?_⟩
      rw [HL.out, if_pos HE.out]
      have h1 := ownsRow_take (m := init.length) HR.out (by simp) (by simpa using hcap)
      exact ⟨_, rfl, ownsRow_putObj (ownsRow_low (by simpa using h1) (by omega)) _ hK rfl, HBE.out⟩
    · have he1 : lst.toList.isEmpty = false := by
        rw [ByteArray.toList_eq]
        have : lst.data.toList ≠ [] := fun h => he (by have := congrArg List.length h; simpa using this)
        simpa using this
      have HE := Lib.hid he
      clear he
      gi_wp2
      refine ⟨by simp, .inl ⟨_, _, rfl, run_takeDeferred hK, ?_⟩⟩
      refine ⟨_, results_tmp rfl _ _ _, ?_⟩
      rw [HL.out, if_neg HE.out]
      exact ⟨_, rfl, ownsRow_putObj (ownsRow_low (by simpa using HR.out) (by omega)) _ hK rfl, HBE.out⟩
  case stop =>
    rintro D c pre W _ _ h _
    exact h.elim
end Go.Proofs.YtofikgjoiidhmaaGreatDoor

namespace Go.Proofs.YtofikgjoiidhmaaGreatDoor

/-- The decimal digits of u, none for 0. -/
def dd (u : Nat) : List UInt8 := if u = 0 then [] else Lib.decDigits u
theorem dd_zero : dd 0 = [] := rfl
theorem dd_pos {u : Nat} (h : u ≠ 0) : dd u = Lib.decDigits u := by unfold dd; rw [if_neg h]
theorem dd_step {u : Nat} (h : u ≠ 0) : dd u = dd (u / 10) ++ [UInt8.ofNat (48 + u % 10)] := by
  rw [dd_pos h, Lib.decDigits]
  by_cases h10 : u < 10
  · rw [dif_pos h10]
    have : u / 10 = 0 := by omega
    rw [this, dd_zero, Nat.mod_eq_of_lt h10]; rfl
  · rw [dif_neg h10, dd_pos (by omega)]
theorem dd_length {u : Nat} (h : u < 18446744073709551616) : (dd u).length ≤ 20 := by
  by_cases h0 : u = 0
  · subst h0; rw [dd_zero]; simp
  · rw [dd_pos h0, Lib.decDigits_length]; exact Lib.nDigits_le20 u h

def tenDigits : ByteArray := ⟨#[48, 49, 50, 51, 52, 53, 54, 55, 56, 57]⟩
theorem tenDigits_one_fin : ∀ i : Fin 10, tenDigits.extract i.val (i.val + 1) = ⟨#[UInt8.ofNat (48 + i.val)]⟩ := by decide +kernel
theorem tenDigits_one {i : Nat} (h : i < 10) : tenDigits.extract i (i + 1) = ⟨#[UInt8.ofNat (48 + i)]⟩ := tenDigits_one_fin ⟨i, h⟩
end Go.Proofs.YtofikgjoiidhmaaGreatDoor

namespace Go.Proofs.YtofikgjoiidhmaaGreatDoor

/-- The number that digits are, the first ahead. -/
def dval (l : List UInt8) : Nat := l.foldl (fun a c => 10 * a + (c.toNat - 48)) 0
theorem dval_snoc (l : List UInt8) (c : UInt8) : dval (l ++ [c]) = 10 * dval l + (c.toNat - 48) := by unfold dval; simp [List.foldl_append]
def DigB (c : UInt8) : Prop := 48 ≤ c.toNat ∧ c.toNat ≤ 57

theorem dig_byte {i : Nat} (h : i < 10) : (UInt8.ofNat (48 + i)).toNat = 48 + i := by
  rw [UInt8.toNat_ofNat']; omega
theorem decDigits_all (u : Nat) : ∀ c ∈ Lib.decDigits u, DigB c := by
  induction u using Nat.strongRecOn with
  | _ u ih =>
    intro c hc
    rw [Lib.decDigits] at hc
    split at hc
    · simp only [List.mem_cons, List.not_mem_nil, or_false] at hc
      subst hc
      unfold DigB
      rw [dig_byte (by omega)]
      omega
    · rw [List.mem_append] at hc
      rcases hc with hc | hc
      · exact ih (u / 10) (by omega) c hc
      · simp only [List.mem_cons, List.not_mem_nil, or_false] at hc
        subst hc
        unfold DigB
        rw [dig_byte (Nat.mod_lt _ (by decide))]
        omega
theorem dval_decDigits (u : Nat) : dval (Lib.decDigits u) = u := by
  induction u using Nat.strongRecOn with
  | _ u ih =>
    rw [Lib.decDigits]
    split
    · rename_i h
      show 10 * 0 + ((UInt8.ofNat (48 + u)).toNat - 48) = u
      rw [dig_byte h]; omega
    · rw [dval_snoc, ih (u / 10) (by omega), dig_byte (Nat.mod_lt _ (by decide))]
      omega
theorem decDigits_ne (u : Nat) : Lib.decDigits u ≠ [] := by
  intro h
  have := congrArg List.length h
  rw [Lib.decDigits_length] at this
  have := Lib.nDigits_pos u
  simp at *
  omega

/-- A text without the minus ahead. -/
def stp : List UInt8 → List UInt8
  | [] => []
  | c :: r => if c.toNat = 45 then r else c :: r
theorem stp_nil : stp [] = [] := rfl
theorem stp_take_succ {l : List UInt8} {k : Nat} (h : k < l.length) (hn : ¬ (k = 0 ∧ (l[k]).toNat = 45)) : stp (l.take (k + 1)) = stp (l.take k) ++ [l[k]] := by
  cases l with
  | nil => simp at h
  | cons c r =>
    cases k with
    | zero =>
      simp only [List.getElem_cons_zero, true_and] at hn
      simp [stp, hn]
    | succ k =>
      have e : r.take (k + 1) = r.take k ++ [r[k]'(by simpa using h)] := by rw [List.take_succ_eq_append_getElem (by simpa using h)]
      simp only [List.take_succ_cons, stp, List.getElem_cons_succ, e]
      split <;> simp
theorem stp_take_one {l : List UInt8} (h : 0 < l.length) (hn : (l[0]).toNat = 45) : stp (l.take 1) = [] := by
  cases l with
  | nil => simp at h
  | cons c r =>
    simp only [List.getElem_cons_zero] at hn
    simp [stp, hn]
theorem mem_stp {l : List UInt8} {k : Nat} (h : k < l.length) (hn : ¬ (k = 0 ∧ (l[k]).toNat = 45)) : l[k] ∈ stp l := by
  cases l with
  | nil => simp at h
  | cons c r =>
    cases k with
    | zero =>
      simp only [List.getElem_cons_zero, true_and] at hn
      simp [stp, hn]
    | succ k =>
      simp only [List.getElem_cons_succ, stp]
      split
      · exact List.getElem_mem _
      · exact List.mem_cons_of_mem _ (List.getElem_mem _)
theorem stp_itoa (m : Int) : stp (Lib.itoa m) = Lib.decDigits m.natAbs := by
  unfold Lib.itoa
  split
  · simp [stp]
  · rw [show m.toNat = m.natAbs by omega]
    have h := decDigits_all m.natAbs
    generalize Lib.decDigits m.natAbs = l at h
    cases l with
    | nil => rfl
    | cons c r =>
      have := h c (by simp)
      unfold DigB at this
      simp only [stp]
      rw [if_neg (by omega)]
theorem itoa_head {m : Int} (h : 0 < (Lib.itoa m).length) : ((Lib.itoa m)[0].toNat = 45) ↔ m < 0 := by
  by_cases hm : m < 0
  · simp [Lib.itoa, hm]
  · have e : Lib.itoa m = Lib.decDigits m.toNat := by simp [Lib.itoa, hm]
    have hd := decDigits_all m.toNat
    simp only [hm, iff_false]
    intro hc
    have hx := hd (Lib.itoa m)[0] (by rw [← e]; exact List.getElem_mem _)
    unfold DigB at hx
    omega
theorem itoa_ne (m : Int) : Lib.itoa m ≠ [] := by
  unfold Lib.itoa
  split
  · simp
  · exact decDigits_ne _
theorem itoa_inj {a b : Int} (h : Lib.itoa a = Lib.itoa b) : a = b := by
  have h1 := congrArg stp h
  rw [stp_itoa, stp_itoa] at h1
  have h2 := congrArg dval h1
  rw [dval_decDigits, dval_decDigits] at h2
  have la : 0 < (Lib.itoa a).length := List.length_pos_iff.2 (itoa_ne a)
  have lb : 0 < (Lib.itoa b).length := List.length_pos_iff.2 (itoa_ne b)
  have ha := itoa_head la
  have hb := itoa_head lb
  have : (a < 0) ↔ (b < 0) := by rw [← ha, ← hb]; simp only [h]
  omega
theorem nDigits_le : ∀ (k u : Nat), u < 10 ^ (k + 1) → Lib.nDigits u ≤ k + 1
  | 0, u, h => by rw [Lib.nDigits_small (by simpa using h)]; omega
  | k + 1, u, h => by
    by_cases h1 : u < 10
    · rw [Lib.nDigits_small h1]; omega
    · rw [Lib.nDigits_big h1]
      have := nDigits_le k (u / 10) (Nat.div_lt_of_lt_mul (by rw [Nat.pow_succ] at h; omega))
      omega
theorem itoa_len {m : Int} (h0 : -9999999999 ≤ m) (h1 : m ≤ 9999999999) : (Lib.itoa m).length ≤ 11 := by
  have hn : (Lib.decDigits m.natAbs).length ≤ 10 := by
    rw [Lib.decDigits_length]
    exact nDigits_le 9 _ (by simp only [Nat.reduceAdd, Nat.reducePow]; omega)
  unfold Lib.itoa
  split
  · simpa using hn
  · rw [show m.toNat = m.natAbs by omega]; omega

theorem read_key {l : List UInt8} {m z : Int} {v : Nat} (hd : dval (stp l) = v) (h0 : 0 < l.length) (hz : z = if l[0].toNat = 45 then -(v : Int) else v) (hm : l = Lib.itoa m) : m = z := by
  subst hm
  rw [stp_itoa, dval_decDigits] at hd
  have hh := itoa_head h0
  by_cases h45 : (Lib.itoa m)[0].toNat = 45
  · rw [if_pos h45] at hz
    have := hh.1 h45
    omega
  · rw [if_neg h45] at hz
    have : ¬ m < 0 := fun h => h45 (hh.2 h)
    omega

/-- What reading a text answers. -/
def ReadsDec (l : List UInt8) (n : Int) (b : Bool) : Prop :=
  (b = true ∧ -9999999999 ≤ n ∧ n ≤ 9999999999 ∧ l = Lib.itoa n) ∨ (b = false ∧ n = 0 ∧ ∀ m : Int, -9999999999 ≤ m → m ≤ 9999999999 → l ≠ Lib.itoa m)
theorem ReadsDec.unique {l : List UInt8} {n m : Int} {a b : Bool} (h : ReadsDec l n a) (k : ReadsDec l m b) : n = m ∧ a = b := by
  rcases h with ⟨rfl, h1, h2, h3⟩ | ⟨rfl, rfl, h3⟩ <;> rcases k with ⟨rfl, k1, k2, k3⟩ | ⟨rfl, rfl, k3⟩
  · exact ⟨itoa_inj (h3.symm.trans k3), rfl⟩
  · exact absurd h3 (k3 _ h1 h2)
  · exact absurd k3 (h3 _ k1 k2)
  · exact ⟨rfl, rfl⟩
end Go.Proofs.YtofikgjoiidhmaaGreatDoor

namespace Go.Proofs.YtofikgjoiidhmaaGreatDoor
open Go.RowKit Go

theorem itoa_nl (n : Int) : ∀ c ∈ Lib.itoa n, c ≠ 10 := by
  intro c hc
  have key : ∀ u : Nat, ∀ c ∈ Lib.decDigits u, c ≠ 10 := fun u c hc e => by
    have h := decDigits_all u c hc
    subst e
    revert h
    unfold DigB
    decide
  unfold Lib.itoa at hc
  split at hc
  · rcases List.mem_cons.1 hc with rfl | hc
    · decide
    · exact key _ c hc
  · exact key _ c hc
theorem primN_nl (k : Int) : ∀ c ∈ (primN k).data.toList, c ≠ 10 := by
  unfold primN
  split
  · obtain ⟨n, hn⟩ : ∃ n, k.toNat = n := ⟨_, rfl⟩
    rw [hn]
    have : n < 24 := by omega
    clear hn
    match n, this with
    | 0, _ | 1, _ | 2, _ | 3, _ | 4, _ | 5, _ | 6, _ | 7, _ | 8, _ | 9, _ | 10, _ | 11, _ | 12, _ | 13, _ | 14, _ | 15, _ | 16, _ | 17, _ | 18, _ | 19, _ | 20, _ | 21, _ | 22, _ | 23, _ => decide
    | n + 24, h => omega
  · decide
theorem insL_nl (n : Nat) : ∀ c ∈ (insL.getD n ⟨#[]⟩).data.toList, c ≠ 10 := by
  match n with
  | 0 | 1 | 2 | 3 | 4 | 5 | 6 | 7 | 8 | 9 => decide
  | n + 10 => simp [insL]
theorem insTx_nl (o : Int × Int) : ∀ c ∈ (insTx o).data.toList, c ≠ 10 := by
  have app : ∀ (a b : ByteArray), (∀ c ∈ a.data.toList, c ≠ 10) → (∀ c ∈ b.data.toList, c ≠ 10) → ∀ c ∈ (a ++ b).data.toList, c ≠ 10 := fun a b ha hb c hc => by
    rw [ByteArray.data_append, Array.toList_append] at hc
    rcases List.mem_append.1 hc with h | h
    · exact ha c h
    · exact hb c h
  unfold insTx
  split
  · split
    · exact app _ _ (by decide) (primN_nl _)
    · decide
  · split
    · decide
    · split
      · decide
      · split
        · decide
        · split
          · exact app _ _ (insL_nl _) (by simpa using itoa_nl o.2)
          · decide
theorem split_lines {p : UInt8 → Bool} (ls : List (List UInt8)) (h : ∀ l ∈ ls, ∀ c ∈ l, p c = false) (hp : p 10 = true) : splitB p ((ls.map (· ++ [10])).flatten) = ls ++ [[]] := by
  induction ls with
  | nil => rfl
  | cons l r ih =>
    rw [List.map_cons, List.flatten_cons, List.append_assoc, List.singleton_append, splitB_cut p l 10 _ (h l (by simp)) hp, ih (fun x hx => h x (by simp [hx]))]
    rfl
/-- The lines, without what ends them. -/
def bareL : Nat → List (Int × Int) → List (List UInt8)
  | _, [] => []
  | a, o :: r => (Lib.itoa (a : Int) ++ 32 :: (insTx o).data.toList) :: bareL (a + 1) r
theorem bareL_len (a : Nat) (xs : List (Int × Int)) : (bareL a xs).length = xs.length := by
  induction xs generalizing a with
  | nil => rfl
  | cons o r ih => simp only [bareL, List.length_cons, ih]
theorem bareL_ends (a : Nat) (xs : List (Int × Int)) : linesL a xs = (bareL a xs).map (· ++ [10]) := by
  induction xs generalizing a with
  | nil => rfl
  | cons o r ih => simp only [linesL, bareL, List.map_cons, ih, lineL, List.append_assoc, List.cons_append]
theorem bareL_nl (a : Nat) (xs : List (Int × Int)) : ∀ l ∈ bareL a xs, ∀ c ∈ l, c ≠ 10 := by
  induction xs generalizing a with
  | nil => intro l hl; simp [bareL] at hl
  | cons o r ih =>
    intro l hl c hc
    rcases List.mem_cons.1 hl with rfl | hl
    · rcases List.mem_append.1 hc with h | h
      · exact itoa_nl _ c h
      · rcases List.mem_cons.1 h with rfl | h
        · decide
        · exact insTx_nl o c h
    · exact ih (a + 1) l hl c hc
theorem listing_lines {xs : List (Int × Int)} (h : codeOk xs = true) : (linesOf (listTx xs)).length = xs.length := by
  have hp : partsOf qNl ⟨(linesL 0 xs).flatten.toArray⟩ = (bareL 0 xs).map (fun l => (⟨l.toArray⟩ : ByteArray)) ++ [⟨#[]⟩] := by
    unfold partsOf
    show (splitB (onByte qNl) (linesL 0 xs).flatten.toArray.toList).map _ = _
    rw [List.toList_toArray, bareL_ends, split_lines (bareL 0 xs) (fun l hl c hc => ?_) (by decide)]
    · simp
    · have h1 := bareL_nl 0 xs l hl c hc
      have h2 : c.toNat ≠ 10 := fun e => h1 (UInt8.toNat_inj.1 (by rw [e]; rfl))
      unfold onByte qNl
      simpa using (by omega : ¬ ((c.toNat : Int) = 10))
  unfold listTx
  rw [if_pos h, linesOf_eq _ _ _ hp, if_pos (show ByteArray.size ⟨#[]⟩ = 0 from rfl), List.length_map, bareL_len]
theorem codeOk_rng {xs : List (Int × Int)} (h : codeOk xs = true) : RngC xs := by
  obtain ⟨hl, -, hi⟩ := codeOk_parts h
  intro o ho
  have h1 := hi o ho
  unfold okIn at h1
  split at h1
  · simp only [decide_eq_true_eq] at h1; omega
  · split at h1
    · simp only [decide_eq_true_eq] at h1; omega
    · split at h1
      · simp only [decide_eq_true_eq] at h1; omega
      · split at h1
        · simp only [decide_eq_true_eq] at h1; omega
        · simp at h1
theorem flatten_le {k : Nat} (ls : List (List UInt8)) (h : ∀ l ∈ ls, l.length ≤ k) : ls.flatten.length ≤ k * ls.length := by
  induction ls with
  | nil => simp
  | cons l r ih =>
    have h1 := h l (by simp)
    have h2 := ih (fun x hx => h x (by simp [hx]))
    rw [List.flatten_cons, List.length_append, List.length_cons, Nat.mul_succ]
    omega
theorem listing_size {xs : List (Int × Int)} (h : codeOk xs = true) : (listTx xs).size ≤ 1048576 := by
  obtain ⟨hl, -, -⟩ := codeOk_parts h
  have h1 := linesL_fit xs 0 (codeOk_rng h) (by omega)
  have h2 := flatten_le _ h1
  rw [linesL_len] at h2
  unfold listTx
  rw [if_pos h]
  show (linesL 0 xs).flatten.toArray.size ≤ _
  rw [List.size_toArray]
  omega
end Go.Proofs.YtofikgjoiidhmaaGreatDoor

namespace Go.Proofs.YtofikgjoiidhmaaGreatDoor
open Go.RowKit Go

set_option maxRecDepth 100000 in
set_option maxHeartbeats 2000000 in
theorem spec_defs_long (ds : List Df) (hl : ¬ ds.length ≤ 24) (hs : SmD ds) (v : Value) (w : World) (hr : RdD w v ds) : Calls Tryz.prog 10 #[v] w fun e w' => e = .returned (.bool (okDefs ds)) ∧ Below w.heap.size w w' := by
  have he : okDefs ds = false := by unfold okDefs; simp [hl]
  rw [he]
  obtain ⟨A, cap, rfl⟩ := hr.form
  have hs1 := hs.1
  obtain ⟨N, hN⟩ : ∃ N, ds.length = N := ⟨_, rfl⟩
  rw [hN] at hl hs1 ⊢
  have h60 : 24 < N := by omega
  have h60' : (24 : Int) < (N : Int) := by omega
  clear hr he hl hN hs
  go_enter Tryz.func10, Tryz.ntmps10
  go_wp2_with fail
  go_ret
  exact ⟨rfl, by go_grown⟩
set_option maxRecDepth 100000 in
set_option maxHeartbeats 8000000 in
theorem spec_defs_short (ds : List Df) (hl : ds.length ≤ 24) (hs : SmD ds) (v : Value) (w : World) (hr : RdD w v ds) : Calls Tryz.prog 10 #[v] w fun e w' => e = .returned (.bool (okDefs ds)) ∧ Below w.heap.size w w' := by
  obtain ⟨R, hR⟩ : ∃ R, okDefs ds = R := ⟨_, rfl⟩
  rw [hR]
  obtain ⟨A, cap, rfl⟩ := hr.form
  have HR := Lib.hid (fun W (h : Below w.heap.size w W) => hr.below h)
  have HEND := Lib.hid (fun h => (okDefs_all hl h).symm.trans hR)
  have HNO := Lib.hid (fun i (hi : i < ds.length) h => hR.symm.trans (okDefs_not (ds := ds) hi h))
  have HST := Lib.hid (fun i (hi : i < ds.length) => all_step (p := okDf ds.length) hi)
  have HSM := Lib.hid hs.2
  obtain ⟨N, hN⟩ : ∃ N, ds.length = N := ⟨_, rfl⟩
  rw [hN] at HEND
  have HN := Lib.hid hN
  rw [hN] at hl ⊢
  have h24 : ¬ (24 : Int) < (N : Int) := by omega
  clear hr hs hR hN
  go_enter Tryz.func10, Tryz.ntmps10
  go_wp2_with fail
  go_loopw [3] (fun vi wr => ∃ i : Nat, vi = .int .i64 i ∧ i ≤ N ∧ Hid (Below w.heap.size w wr) ∧ Hid ((ds.take i).all (okDf ds.length) = true)) (fun vi _ => N - (intOf vi).toNat)
  case atStart => exact ⟨0, rfl, by omega, Lib.hid (Below.refl _ _), Lib.hid (by simp)⟩
  case round =>
    obtain ⟨i, rfl, hi, HB, HA⟩ := hrel
    by_cases hp : i < N
    · have hp' : i < ds.length := by rw [HN.out]; exact hp
      obtain ⟨a, B, m, bc, rfl, la, p0, p1, r0, em⟩ := (HR.out wr HB.out).item hp'
      have HNO2 := Lib.hid (HNO.out i hp')
      have HST2 := Lib.hid (HST.out i hp' HA.out)
      have hsm := HSM.out _ (List.getElem_mem hp')
      rw [HN.out] at HNO2 HST2
      obtain ⟨x, hx⟩ : ∃ x, ds[i] = x := ⟨_, rfl⟩
      rw [hx] at p0 r0 em HNO2 HST2 hsm
      obtain ⟨nm, xs⟩ := x
      simp only at p0 r0 em hsm
      obtain ⟨hsz, hxl, hrg⟩ := hsm
      have LA : Hid ((a.add (i * 2)).block < wr.heap.size) := Lib.hid (by rw [addr_addb]; exact la)
      have HNM := Lib.hid (fun W => spec_nameok nm (by omega) W)
      have HSH := Lib.hid (fun W (h : Below wr.heap.size wr W) => spec_shape xs hrg (.slice B m bc) W (r0.below h))
      have HRX := Lib.hid (fun W (h : Below wr.heap.size wr W) => r0.below h)
      have HRG := Lib.hid (show RngO xs from hrg)
      have hm : m ≤ 1048576 := by omega
      have HXM := Lib.hid em
      have i1 : (0 : Int) ≤ (i : Int) := by omega
      have i2 : (i : Int) < (N : Int) := by omega
      clear hx la hp' hsz hxl hrg r0 em HA
      cases hn : nameOk nm with
      | false =>
        rw [hn] at HNM
        have HE : Hid (R = false) := Lib.hid (HNO2.out (by simp [okDf, hn]))
        clear hn HNO2 HST2 HSH HRX
        go_wp2_with fail
        refine (HNM.out _).mono ?_
        rintro e w2 ⟨rfl, rfl⟩
        go_wp2_with fail
        go_ret
        exact ⟨by rw [HE.out]; rfl, HB.out⟩
      | true =>
        rw [hn] at HNM
        cases hsh : shapeB xs with
        | false =>
          rw [hsh] at HSH
          have HE : Hid (R = false) := Lib.hid (HNO2.out (by simp [okDf, hsh]))
          clear hn hsh HNO2 HST2 HRX
          go_wp2_with fail
          refine (HNM.out _).mono ?_
          rintro e w2 ⟨rfl, rfl⟩
          go_wp2_with fail
          refine (HSH.out _ (Below.refl _ _)).mono ?_
          rintro e w3 ⟨rfl, hb3⟩
          have HB2 := Lib.hid (HB.out.trans (hb3.mono HB.out.size))
          clear hb3 HB
          go_wp2_with fail
          go_ret
          exact ⟨by rw [HE.out]; rfl, HB2.out⟩
        | true =>
          rw [hsh] at HSH
          have HOK : Hid (okDf N (nm, xs) = xs.all (okC N)) := Lib.hid (by simp [okDf, hn, hsh])
          clear hn hsh
          go_wp2_with fail
          refine (HNM.out _).mono ?_
          rintro e w2 ⟨rfl, rfl⟩
          go_wp2_with fail
          refine (HSH.out _ (Below.refl _ _)).mono ?_
          rintro e w3 ⟨rfl, hb3⟩
          have HB3 := Lib.hid (HB.out.trans (hb3.mono HB.out.size))
          have RX3 := Lib.hid (fun W (h : Below w3.heap.size w3 W) => (HRX.out w3 hb3).below h)
          have C1 := Lib.hid (fun W (h : Below w3.heap.size w3 W) => ((hb3.trans (h.mono hb3.size)).cell (p := ⟨(a.add (i * 2)).block, (a.add (i * 2)).off + 1, none⟩) LA.out).trans p1)
          clear hb3 HB HSH HRX HNM p0 p1
          go_wp2_with fail
          go_loopw [4] (fun vk wr2 => ∃ k : Nat, vk = .int .i64 k ∧ k ≤ m ∧ Hid (Below w3.heap.size w3 wr2) ∧ Hid ((xs.take k).all (okC N) = true)) (fun vk _ => m - (intOf vk).toNat)
          case atStart => exact ⟨0, rfl, by omega, Lib.hid (Below.refl _ _), Lib.hid (by simp)⟩
          case round =>
            obtain ⟨k, rfl, hk, HB4, HA4⟩ := hrel
            have q1 := C1.out wr HB4.out
            by_cases hkm : k < m
            · have hk' : k < xs.length := by have := HXM.out; omega
              obtain ⟨b, rfl, lb, o0, o1⟩ := (RX3.out wr HB4.out).item hk'
              have hrx := HRG.out _ (List.getElem_mem hk')
              have HSTC := Lib.hid (fun h => all_step (p := okC N) hk' HA4.out h)
              have HNOC := Lib.hid (fun h => HNO2.out (by rw [HOK.out]; exact all_not (p := okC N) hk' h))
              obtain ⟨x, hx⟩ : ∃ x, xs[k] = x := ⟨_, rfl⟩
              rw [hx] at o0 o1 hrx HSTC HNOC
              obtain ⟨kk, z⟩ := x
              simp only at hrx o0 o1
              have k1 : (0 : Int) ≤ (k : Int) := by omega
              have k2 : (k : Int) < (m : Int) := by omega
              have wn : IntKind.i64.wrap z = z := IntWalk.i64_in _ (by omega)
              clear hx hrx lb hk' HA4
              by_cases hkk : kk = 2
              · subst hkk
                by_cases hz : (N : Int) ≤ z
                · have HE : Hid (R = false) := Lib.hid (HNOC.out (by simp [okC, hz]))
                  have HB5 := Lib.hid (HB3.out.trans ((HB4.out.alloc HB4.out.size (.cells #[.int .i64 2, .int .i32 z] 70)).mono HB3.out.size))
                  clear HSTC HNOC HNO2 HST2 HB3 HB4
                  go_wp2_with fail
                  go_ret
                  exact ⟨by rw [HE.out]; rfl, HB5.out⟩
                · have HA5 := Lib.hid (HSTC.out (by simp [okC]; omega))
                  have HB5 := Lib.hid (HB4.out.alloc HB4.out.size (.cells #[.int .i64 2, .int .i32 z] 70))
                  clear HSTC HNOC HB4
                  go_wp2_with fail
                  go_roundw
                  case rel => exact ⟨k + 1, by go_num, by omega, HB5, HA5⟩
                  case measure => simp [intOf]; omega
              · have q2 : (kk == 2) = false := by simpa using hkk
                have HA5 := Lib.hid (HSTC.out (by simp [okC, hkk]))
                have HB5 := Lib.hid (HB4.out.alloc HB4.out.size (.cells #[.int .i64 kk, .int .i32 z] 70))
                clear HSTC HNOC HB4 hkk
                go_wp2_with fail
                go_roundw
                case rel => exact ⟨k + 1, by go_num, by omega, HB5, HA5⟩
                case measure => simp [intOf]; omega
            · obtain rfl : k = m := by omega
              have HA2 : Hid ((ds.take (i + 1)).all (okDf ds.length) = true) := Lib.hid (by
                have hall : xs.all (okC N) = true := by have := HA4.out; rwa [List.take_of_length_le (by have := HXM.out; omega)] at this
                have := HST2.out (by rw [HOK.out, hall])
                rw [HN.out]
                exact this)
              have HB5 := Lib.hid (HB3.out.trans (HB4.out.mono HB3.out.size))
              clear HA4 HB3 HB4 HNO2 HST2 HOK
              go_wp2_with fail
              go_roundw
              case rel => exact ⟨i + 1, by go_num, by omega, HB5, HA2⟩
              case measure => simp [intOf]; omega
    · obtain rfl : i = N := by omega
      have HE : Hid (R = true) := Lib.hid (by have := HEND.out (by rw [← HN.out]; have := HA.out; rw [← HN.out] at this; exact this); exact this.symm)
      clear HA HR HEND HNO HST
      go_wp2_with fail
      go_ret
      exact ⟨by rw [HE.out]; rfl, HB.out⟩
theorem spec_defs (ds : List Df) (hs : SmD ds) (v : Value) (w : World) (hr : RdD w v ds) : Calls Tryz.prog 10 #[v] w fun e w' => e = .returned (.bool (okDefs ds)) ∧ Below w.heap.size w w' := by
  by_cases hl : ds.length ≤ 24
  · exact spec_defs_short ds hl hs v w hr
  · exact spec_defs_long ds hl hs v w hr
end Go.Proofs.YtofikgjoiidhmaaGreatDoor

namespace Go.Proofs.YtofikgjoiidhmaaGreatDoor
open Go.RowKit Go
theorem impl_lines (s : ByteArray) (hs : s.size ≤ 1048576) (w : World) : Calls Tryz.prog 12 #[.string s] w (NewStrs w (linesOf s)) := callsIn_wide.1 (impl_lines_in s hs w)
end Go.Proofs.YtofikgjoiidhmaaGreatDoor

namespace Go.Proofs.YtofikgjoiidhmaaGreatDoor
open Go.RowKit Go

/-- What the law asks of the places where definitions begin. -/
theorem starts_facts {ds : List Df} {tss : List (List Tr)} (hM : MadeC ds tss) (tail : Bool) : (natI (startsL tail 0 tss)).length = ds.length ∧ (∀ k (h : k < (natI (startsL tail 0 tss)).length), 0 ≤ (natI (startsL tail 0 tss))[k] ∧ (natI (startsL tail 0 tss))[k] < ((codeV tail tss).length : Int)) ∧ ∀ k (h : k + 1 < (natI (startsL tail 0 tss)).length), (natI (startsL tail 0 tss))[k]'(by omega) ≤ (natI (startsL tail 0 tss))[k + 1] := by
  have e1 : (natI (startsL tail 0 tss)).length = tss.length := by simp [natI, startsL_len]
  refine ⟨by rw [e1, hM.of.len], fun k h => ?_, fun k h => ?_⟩
  · have h2 : k < tss.length := by omega
    have h3 := startI_lt (tail := tail) h2
    have h4 : (natI (startsL tail 0 tss))[k] = startI (startsL tail 0 tss) k := by
      unfold startI
      rw [List.getElem?_eq_getElem (by rw [startsL_len]; exact h2)]
      simp [natI]
    rw [h4, hM.len]
    omega
  · have h2 := startsL_mono tail tss 0 k (by rw [startsL_len]; omega)
    simp only [natI, List.getElem_map]
    omega
theorem RdL.atF {w : World} {A : Option Addr} {n cap : Nat} {xs : List Int} (h : RdL w (.slice A n cap) xs) {i : Nat} (hi : i < xs.length) : ∃ a, A = some a ∧ a.block < w.heap.size ∧ w.cell? (a.add i) = some (.int .i64 xs[i]) := by
  obtain ⟨A3, c4, hv4, -, hc4⟩ := h
  injection hv4 with e1 e2 e3
  subst e1
  exact hc4 i hi
set_option maxRecDepth 100000 in
set_option maxHeartbeats 8000000 in
theorem law_FnCode (A : Option Addr) (len cap : Nat) (w : World) (hcode : CodeOk w w.heap.size A len) (hp : Lib.TabIs Tryz.prog w "internal/strconv.uint64pow10" .u64 Lib.pow10Tab) (hg : InsW w) :
    Calls Tryz.prog 3 #[.slice A len cap] w fun e w' => e = .returned (.bool true) ∧ Below w.heap.size w w' := by
  have HC := Lib.hid hcode
  have HPW := Lib.hid (fun W (h : Below w.heap.size w W) => tab_below hp h)
  have HSG := Lib.hid (fun W (h : Below w.heap.size w W) => hg.below h)
  clear hcode hp hg
  by_cases hbig : (1048576 : Int) < (len : Int)
  · have hb1 : decide ((1048576 : Int) < (len : Int)) = true := by simpa using hbig
    go_enter Tryz.func3, Tryz.ntmps3
    go_wp2_with (go_at_call 7; refine (big_any _ _ _ _).mono ?_; rintro e w' ⟨rfl, rfl⟩)
    go_ret
    exact ⟨rfl, Below.refl _ _⟩
  · have hb1 : decide ((1048576 : Int) < (len : Int)) = false := by simpa using hbig
    clear hbig
    go_enter Tryz.func3, Tryz.ntmps3
    go_wp2_with (go_at_call 7; refine (big_any _ _ _ _).mono ?_; rintro e w' ⟨rfl, rfl⟩)
    refine (drawcode_any A len cap w HC.out).mono ?_
    rintro e w1 ⟨v, ds, t, rfl, hr, hsm, hbl⟩
    have B1 := Lib.hid hbl
    have HSD := Lib.hid (fun W (h : RdD W v ds) => spec_defs ds hsm v W h)
    have HR := Lib.hid (fun W (h : Below w1.heap.size w1 W) => (hr.below h).rd)
    clear HC hb1 hbl
    cases hok : okDefs ds with
    | false =>
      have HI := Lib.hid (impl_codeof_not ds hsm hok t v w1 hr.rd)
      rw [hok] at HSD
      clear hr hsm hok
      go_wp2_with fail
      refine HI.out.mono ?_
      rintro e w2 ⟨g0, g1, rfl, ho0, ho1, hb2⟩
      obtain ⟨G0, c0, rfl⟩ := own_formM (show w2.ownsRow w1.heap.size _ 2 g0 0 _ from ho0)
      obtain ⟨G1, c1, rfl⟩ := own_formM (show w2.ownsRow w1.heap.size _ 1 g1 0 _ from ho1)
      have C2 := Lib.hid hb2
      clear ho0 ho1 hb2 HI
      go_wp2_with fail
      refine (HSD.out w2 (HR.out _ C2.out)).mono ?_
      rintro e w3 ⟨rfl, hb3⟩
      have B3 := Lib.hid (B1.out.trans ((C2.out.trans (hb3.mono C2.out.size)).mono B1.out.size))
      clear hb3 HSD C2 B1
      go_wp2_with fail
      go_ret
      exact ⟨rfl, B3.out⟩
    | true =>
      obtain ⟨tss, ht⟩ := okDefs_trees hok
      have hM := made_of hok (fun d hd => (hsm.2 d hd).2.2) ht
      have HI := Lib.hid (impl_codeof ds hsm hok tss hM t v w1 hr)
      obtain ⟨s1, s2, s3⟩ := starts_facts hM t
      have hcd := hM.ok t
      have hln := (codeOk_parts hcd).1
      obtain ⟨L, S, hL, hS, s1, s2, s3⟩ : ∃ (L : List (Int × Int)) (S : List Int), codeV t tss = L ∧ natI (startsL t 0 tss) = S ∧ S.length = ds.length ∧ (∀ k (h : k < S.length), 0 ≤ S[k] ∧ S[k] < (L.length : Int)) ∧ ∀ k (h : k + 1 < S.length), S[k]'(Nat.lt_of_succ_lt h) ≤ S[k + 1] := ⟨_, _, rfl, rfl, s1, s2, fun k h => s3 k h⟩
      rw [hS] at HI
      rw [hL] at HI hcd hln
      have hrg := codeOk_rng hcd
      have hll := listing_lines hcd
      have hls := listing_size hcd
      rw [hok] at HSD
      have HCO := Lib.hid (fun u W (h : RdIc W u L) => impl_codeok L hrg u W h)
      rw [hcd] at HCO
      have HLI := Lib.hid (fun u W (h : RdIc W u L) (h2 : Below w.heap.size w W) => impl_listing L hrg u W h (HPW.out W h2) (HSG.out W h2))
      obtain ⟨T, hT⟩ : ∃ T, listTx L = T := ⟨_, rfl⟩
      rw [hT] at HLI hll hls
      have HLN := Lib.hid (fun W => impl_lines T hls W)
      obtain ⟨LS, hLS⟩ : ∃ LS, linesOf T = LS := ⟨_, rfl⟩
      rw [hLS] at HLN hll
      obtain ⟨N, hN⟩ : ∃ N, ds.length = N := ⟨_, rfl⟩
      rw [hN] at s1
      obtain ⟨M, hMl⟩ : ∃ M, L.length = M := ⟨_, rfl⟩
      rw [hMl] at hln s2 hll
      have HS2 := Lib.hid s2
      have HS3 := Lib.hid s3
      have HS1 := Lib.hid s1
      have hN24 : Hid (N ≤ 1048576) := Lib.hid (by rw [← hN]; exact hsm.1)
      have HM1 := Lib.hid hMl
      have HV := Lib.hid hN
      obtain ⟨V, vc, hv⟩ := hr.rd.form
      subst hv
      clear hr hsm hok hM ht hcd hrg hls hL hS hT hLS s1 s2 s3 hMl
      rw [hN] at HI HSD HR ⊢
      clear hN
      go_wp2_with fail
      refine HI.out.mono ?_
      rintro e w2 ⟨g0, g1, rfl, ho0, ho1, hb2⟩
      rw [HM1.out] at ho0
      rw [HS1.out] at ho1
      obtain ⟨G0, c0, rfl⟩ := own_formM ho0
      obtain ⟨G1, c1, rfl⟩ := own_formM ho1
      have HG0 := Lib.hid (fun W (h : Below w2.heap.size w2 W) => (RdIc.of_own (xs := L) (by rw [HM1.out]; exact ho0) (by rw [HM1.out]; omega)).below h)
      have HG1 := Lib.hid (fun W (h : Below w2.heap.size w2 W) => (RdL.of_own (xs := S) (by rw [HS1.out]; exact ho1) (by rw [HS1.out]; have := hN24.out; omega)).below h)
      have C2 := Lib.hid hb2
      have B2 := Lib.hid (B1.out.trans (hb2.mono B1.out.size))
      clear ho0 ho1 hb2 HI B1
      go_wp2_with fail
      refine (HSD.out w2 (HR.out _ C2.out)).mono ?_
      rintro e w3 ⟨rfl, hb3⟩
      have D3 := Lib.hid hb3
      clear hb3 HSD C2 HR
      go_wp2_with fail
      refine (HCO.out _ w3 (HG0.out _ D3.out)).mono ?_
      rintro e w4 ⟨rfl, hb4⟩
      have D4 := Lib.hid (D3.out.trans (hb4.mono D3.out.size))
      have hNE : ((N : Int) != (N : Int)) = false := by simp
      clear hb4 D3 HCO
      go_wp2_with fail
      go_loopw [7, 8] (fun vl vi wr => ∃ (i : Nat) (l : Int), vi = .int .i64 i ∧ vl = .int .i64 l ∧ i ≤ N ∧ Hid (∀ h : i < S.length, l ≤ S[i]) ∧ Hid (Below w2.heap.size w2 wr)) (fun _ vi _ => N - (intOf vi).toNat)
      case atStart => exact ⟨0, 0, rfl, rfl, by omega, Lib.hid (fun h => (HS2.out 0 h).1), D4⟩
      case round =>
        obtain ⟨i, l, rfl, rfl, hi, HL, HB⟩ := hrel
        clear D4
        by_cases hp : i < N
        · have hpS : i < S.length := by rw [HS1.out]; exact hp
          obtain ⟨a, rfl, la, p0⟩ := (HG1.out _ HB.out).atF hpS
          obtain ⟨x, hx⟩ : ∃ x, S[i] = x := ⟨_, rfl⟩
          rw [hx] at p0
          have hx1 := HS2.out i hpS
          have hx2 := HL.out hpS
          rw [hx] at hx1 hx2
          have HN3 : Hid (∀ h : i + 1 < S.length, x ≤ S[i + 1]) := Lib.hid (fun h => by rw [← hx]; exact HS3.out i h)
          have hN25 := hN24.out
          have i1 : (0 : Int) ≤ (i : Int) := by omega
          have i2 : (i : Int) < (N : Int) := by omega
          have t1 : ¬ x < l := by omega
          have t2 : ¬ (M : Int) ≤ x := by omega
          clear hx hpS la
          go_wp2_with fail
          go_roundw
          case rel => exact ⟨i + 1, x, by go_num, rfl, by omega, HN3, HB⟩
          case measure => simp [intOf]; omega
        · obtain rfl : i = N := by omega
          have B5 := Lib.hid (B2.out.trans (HB.out.mono B2.out.size))
          go_wp2_with fail
          refine (HLI.out _ wr (HG0.out _ HB.out) B5.out).mono ?_
          rintro e w6 ⟨rfl, hb6⟩
          have B6 := Lib.hid (B5.out.trans (hb6.mono B5.out.size))
          clear hb6 B5 HB HLI
          go_wp2_with fail
          refine (HLN.out w6).mono ?_
          rintro e w7 ⟨u, rfl, ho7, hb7⟩
          obtain ⟨U, uc, rfl⟩ := own_formM ho7
          have B7 := Lib.hid (B6.out.trans (hb7.mono B6.out.size))
          have hME : ((M : Int) == (M : Int)) = true := by simp
          rw [hll]
          clear ho7 hb7 B6 HLN
          go_wp2_with fail
          go_ret
          exact ⟨rfl, B7.out⟩
end Go.Proofs.YtofikgjoiidhmaaGreatDoor
