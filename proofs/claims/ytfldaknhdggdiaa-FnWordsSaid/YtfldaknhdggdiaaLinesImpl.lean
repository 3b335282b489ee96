/-
  impl.Lines answers a new list: the parts of a text between newlines, without the last one where that is empty.
-/
import Derived.Test.YtfldaknhdggdiaaPartsOf
import Derived.Deep.AppendLies
namespace Go.Proofs.Ytfldaknhdggdiaa
open Go.RowKit Go.Shelf Go

attribute [local go_sem] Oper.semAt_some

theorem infoS : (Try.prog.info? 9).map (fun i => (i.zero, i.size, i.bytes)) = some (some (.string ⟨#[]⟩), 1, 16) := by kernel_rfl

theorem partsOf_ne (q : Int → Bool) (s : ByteArray) : partsOf q s ≠ [] := by
  unfold partsOf
  simpa using splitB_ne _ _
theorem partsOf_len (q : Int → Bool) (s : ByteArray) : (partsOf q s).length ≤ s.size + 1 := by
  unfold partsOf
  have := splitB_length (onByte q) s.data.toList
  simp at this ⊢
  omega
/-- The lines of a text. -/
def linesOf (s : ByteArray) : List ByteArray := if ((partsOf qNl s).getLast (partsOf_ne _ _)).size = 0 then (partsOf qNl s).dropLast else partsOf qNl s
/-- A new list of texts. -/
def NewStrs (w : World) (ls : List ByteArray) (e : Ending) (w' : World) : Prop := ∃ v, e = .returned v ∧ w'.ownsRow w.heap.size 9 1 v ls.length (ls.map Value.string) ∧ Below w.heap.size w w'

theorem ownsRow_take {W : World} {base : Nat} {e : TypeId} {g cap n m : Nat} {xs : List Value} (h : W.ownsRow base e 1 (.slice (some ⟨g, 0, none⟩) n cap) n xs) (hm : m ≤ n) (hc : n ≤ cap) : W.ownsRow base e 1 (.slice (some ⟨g, 0, none⟩) m cap) m (xs.take m) := by
  obtain ⟨h0, h1⟩ := h
  refine ⟨by simp at h0 ⊢; omega, ?_⟩
  rcases h1 with ⟨h2, _⟩ | ⟨g', cap', cur, h2, hb, hh, hn, hm2, hsz, ht⟩
  · cases h2
  · injection h2 with e1 e2 e3
    injection e1 with e1
    injection e1 with e1
    subst e1 e3
    refine .inr ⟨g, cap, cur, rfl, hb, hh, by omega, hm2, hsz, ?_⟩
    rw [← ht, List.take_take]
    congr 1; omega

theorem ownsRow_low {W : World} {base base' : Nat} {e : TypeId} {size : Nat} {v : Value} {n : Nat} {xs : List Value} (h : W.ownsRow base e size v n xs) (hb : base' ≤ base) : W.ownsRow base' e size v n xs := by
  refine ⟨h.1, ?_⟩
  rcases h.2 with h1 | ⟨g, cap, cur, h2, hg, r⟩
  · exact .inl h1
  · exact .inr ⟨g, cap, cur, h2, by omega, r⟩
theorem exists_snoc {α : Type} {l : List α} (h : l ≠ []) : ∃ init lst, l = init ++ [lst] := ⟨l.dropLast, l.getLast h, (List.dropLast_concat_getLast h).symm⟩
theorem linesOf_eq (s : ByteArray) (init : List ByteArray) (lst : ByteArray) (h : partsOf qNl s = init ++ [lst]) : linesOf s = if lst.size = 0 then init else init ++ [lst] := by
  unfold linesOf
  have h1 : (partsOf qNl s).getLast (partsOf_ne _ _) = lst := by simp [h]
  rw [h1, h]
  simp

set_option maxRecDepth 100000 in
set_option maxHeartbeats 4000000 in
theorem impl_lines_in (s : ByteArray) (hs : s.size ≤ 1048576) (w : World) :
    CallsIn Fence.wide 9 Try.prog 10 #[.string s] w (NewStrs w (linesOf s)) := by
  obtain ⟨i0, hi, hz0, hz1, hz2⟩ := info_parts infoS
  have hN := partsOf_len qNl s
  refine callsIn_of_wp_marks Try.func10 rfl trivial ?_ rfl
  simp only [Try.ntmps10, List.size_toArray, List.length_cons, List.length_nil, Nat.reduceAdd, Nat.reduceSub, Array.replicate_succ, Array.replicate_zero, List.push_toArray, List.append_toArray, List.nil_append, List.cons_append]
  have hB1 : Below w.heap.size w (w.alloc (.cells #[.slice none 0 0] 25)) := (Below.refl _ w).alloc (Nat.le_refl _) _
  have bO := Boxed.new w 25 (.slice none 0 0)
  gi_wp2
  refine ⟨trivial, ?_⟩
  refine (callsIn_wide.2 (parts_any s 22 _)).mono ?_
  rintro e w1 ⟨rfl, hw1⟩
  have hb2 : Below w.heap.size w w1 := by rw [hw1]; exact hB1.trans ((boxed2_below _ _ _).mono (by simp))
  have bO1 : Boxed w1 w.heap.size 25 (.slice none 0 0) := by rw [hw1]; exact (bO.alloc _).alloc _
  have hsz1 : w1.heap.size = w.heap.size + 3 := by rw [hw1, boxed2_size]; simp
  have hst := stops_nl 8 (by omega) s hs w1 _ w.heap.size (by simp) hw1
  rw [World.size_alloc] at hst
  clear hw1
  have HSZ := Lib.hid hsz1
  clear hsz1
  gi_wp2
  have HN := Lib.hid hN
  have hsz1 := HSZ.out
  refine wpIn_rangeFunc_ownG rfl (by omega) (gf := 26) (lb := #[.pointer (some ⟨w.heap.size + 1, 0, none⟩), .pointer (some ⟨w.heap.size + 1 + 1, 0, none⟩)]) rfl trivial (enters_of Try.func26 (by kernel_rfl) rfl)
    hst kept_t (kept_b (by omega)) (Below.refl _ _) (fun _ => rfl)
    (fun pre W => (∃ v, Boxed W w.heap.size 25 v ∧ W.ownsRow (w.heap.size + 3) 9 1 v pre.length (pre.map Value.string) ∧ True) ∧ Below w.heap.size w W ∧ w.heap.size + 3 ≤ W.heap.size)
    (fun _ _ _ => False)
    (OwnFrom.and (Own.from (holdsRow_own (w.heap.size + 3) w.heap.size 25 9 1 (fun (pre : List ByteArray) => pre.length) (fun (pre : List ByteArray) => pre.map Value.string) (fun _ _ => True)) _) (OwnFrom.and (ownFrom_below (Nat.le_refl _) (by omega)) (Own.from (fun _ W W' _ h hg _ => Nat.le_trans h hg.size) _)))
    (fun _ _ _ _ _ hs _ _ => hs)
    ⟨⟨_, bO1, World.ownsRow_nil _ _ _ _, trivial⟩, hb2, by omega⟩
    (fun x => { tmps := #[.string s, undef, .slice none 0 0, .pointer (some ⟨w.heap.size, 0, none⟩), .string x, undef, .string s, .func (.func 26) #[] #[.pointer (some ⟨w.heap.size + 1, 0, none⟩), .pointer (some ⟨w.heap.size + 1 + 1, 0, none⟩)], .string x, undef, undef, undef, undef, undef, undef, undef, undef, undef, undef, undef, undef, undef, undef, undef, undef], defers := [] }) ?assign ?body ?done ?stop
  case assign =>
    intro l x W K hK
    gi_wp2
    exact hK
  case body =>
    rintro l pre x W ⟨⟨v, hv, hrow, -⟩, hB, hB3⟩ hlt
    have hc := hv.cell
    gi_wp2_with (gi_at_builtin; refine wpListIn_append_own _ rfl _ _ 25 rfl (w.heap.size + 3) 9 i0 (.string ⟨#[]⟩) 1 16 Try.underlying25 hi hz0 hz1 hz2 rfl (by decide) _ _ _ rfl (hrow.alloc _) ⟨W.heap.size, 0, none⟩ 1 1 [.string x] rfl rfl (cell_one_new _ _ _) (by simp [Value.oneCell']) (by unfold maxLen; have := HN.out; omega) (by have := HN.out; omega) (by simp; omega) ?_; intro v' w1 hown' hgrow _; obtain ⟨g', cap', rfl⟩ := ownsRow_succ hown'; obtain ⟨hv1, hv2, hr2, hk2, hm2, hb2⟩ := appended2 hv (by decide) hrow hB3 (by omega) hown' hgrow; have hc1 := hv1.cell; have hf1 := hv1.frozen)
    exact ⟨hk2.from _, ⟨hm2, hk2.walks⟩, ⟨_, hv2, by simpa using hr2, trivial⟩, hB.trans hb2, by have := hb2.size; omega⟩
  case done =>
    rintro D ys W hD rfl ⟨⟨v, hv, hrow, -⟩, hB, hB3⟩ hK
    have hc := hv.cell
    have hD2 : w.heap.size ≤ D := by omega
    have hend := linesOf_eq s
    obtain ⟨init, lst, hps⟩ := exists_snoc (partsOf_ne qNl s)
    have hL := hend init lst hps
    rw [hps] at hrow
    clear hend
    obtain ⟨g, cap, rfl, hgb, hglt⟩ := hrow.form (by simp)
    have hcell : W.cell? ⟨g, init.length, none⟩ = some (.string lst) := by
      have := hrow.cells (g := g) rfl init.length (.string lst) (by simp)
      have e : (⟨g, 0, none⟩ : Addr).add init.length = ⟨g, init.length, none⟩ := by unfold Addr.add; split <;> simp_all
      rwa [e] at this
    have hcap : init.length + 1 ≤ cap := by
      rcases hrow.2 with ⟨h, _⟩ | ⟨g', cap', cur, h, _, _, hn, _⟩
      · cases h
      · injection h with _ _ h3
        subst h3
        simpa using hn
    have hlen : init.length + 1 ≤ 1048577 := by have := HN.out; rw [hps] at this; simp at this; omega
    have hcap2 : cap ≤ 9223372036854775807 := by
      rcases hrow.2 with ⟨h, _⟩ | ⟨g', cap', cur, h, _, _, _, hm, _⟩
      · cases h
      · injection h with _ _ h3
        subst h3
        unfold maxLen at hm; omega
    have HR := Lib.hid hrow
    have HL := Lib.hid hL
    have HBE : Hid (Below w.heap.size w (W.putObj D (.deferred none))) := Lib.hid (hB.trans (belowK_b (w := w) (Nat.le_refl _) W D _ _ hD2 hK rfl rfl))
    clear hrow hL hps hB
    simp only [List.length_append, List.length_cons, List.length_nil] at *
    by_cases he : lst.size = 0
    · have he1 : lst.toList.isEmpty = true := by
        rw [ByteArray.toList_eq]
        have : lst.data.toList.length = 0 := by simpa using he
        rw [List.length_eq_zero_iff.1 this]; rfl
      have HE := Lib.hid he
      clear he
      gi_wp2
      refine ⟨by simp, .inl ⟨_, _, rfl, run_takeDeferred hK, ?_⟩⟩
      refine ⟨_, results_tmp rfl _ _ _, ?_⟩
      rw [HL.out, if_pos HE.out]
      have h1 := ownsRow_take (m := init.length) HR.out (by simp) (by simpa using hcap)
      exact ⟨_, rfl, ownsRow_putObj (ownsRow_low (by simpa using h1) (by omega)) _ hK rfl, HBE.out⟩
    · have he1 : lst.toList.isEmpty = false := by
        rw [ByteArray.toList_eq]
        have : lst.data.toList ≠ [] := fun h => he (by have := congrArg List.length h; simpa using this)
        simpa using this
      have HE := Lib.hid he
      clear he
      gi_wp2
      refine ⟨by simp, .inl ⟨_, _, rfl, run_takeDeferred hK, ?_⟩⟩
      refine ⟨_, results_tmp rfl _ _ _, ?_⟩
      rw [HL.out, if_neg HE.out]
      exact ⟨_, rfl, ownsRow_putObj (ownsRow_low (by simpa using HR.out) (by omega)) _ hK rfl, HBE.out⟩
  case stop =>
    rintro D c pre W _ _ h _
    exact h.elim
end Go.Proofs.Ytfldaknhdggdiaa
