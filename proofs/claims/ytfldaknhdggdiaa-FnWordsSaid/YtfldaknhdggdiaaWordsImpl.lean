/-
  impl.Words answers a new list: the parts of a text between blanks, newlines and bytes 9 that are not empty.
-/
import Derived.Test.YtfldaknhdggdiaaLinesImpl
namespace Go.Proofs.Ytfldaknhdggdiaa
open Go.RowKit Go.Shelf Go

attribute [local go_sem] Oper.semAt_some

def full (l : List ByteArray) : List ByteArray := l.filter fun x => x.size != 0
/-- The words of a text. -/
def wordsOf (s : ByteArray) : List ByteArray := full (partsOf qSp s)

set_option maxRecDepth 100000 in
set_option maxHeartbeats 4000000 in
theorem impl_words_in (s : ByteArray) (hs : s.size ≤ 1048576) (w : World) :
    CallsIn Fence.wide 9 Try.prog 8 #[.string s] w (NewStrs w (wordsOf s)) := by
  obtain ⟨i0, hi, hz0, hz1, hz2⟩ := info_parts infoS
  have hN := partsOf_len qSp s
  refine callsIn_of_wp_marks Try.func8 rfl trivial ?_ rfl
  simp only [Try.ntmps8, List.size_toArray, List.length_cons, List.length_nil, Nat.reduceAdd, Nat.reduceSub, Array.replicate_succ, Array.replicate_zero, List.push_toArray, List.append_toArray, List.nil_append, List.cons_append]
  have hB1 : Below w.heap.size w (w.alloc (.cells #[.slice none 0 0] 25)) := (Below.refl _ w).alloc (Nat.le_refl _) _
  have bO := Boxed.new w 25 (.slice none 0 0)
  gi_wp2
  refine ⟨trivial, ?_⟩
  refine (callsIn_wide.2 (parts_any s 21 _)).mono ?_
  rintro e w1 ⟨rfl, hw1⟩
  have hb2 : Below w.heap.size w w1 := by rw [hw1]; exact hB1.trans ((boxed2_below _ _ _).mono (by simp))
  have bO1 : Boxed w1 w.heap.size 25 (.slice none 0 0) := by rw [hw1]; exact (bO.alloc _).alloc _
  have hsz1 : w1.heap.size = w.heap.size + 3 := by rw [hw1, boxed2_size]; simp
  have hst := stops_sp 8 (by omega) s hs w1 _ w.heap.size (by simp) hw1
  rw [World.size_alloc] at hst
  clear hw1
  have HSZ := Lib.hid hsz1
  clear hsz1
  gi_wp2
  have HN := Lib.hid hN
  have hsz1 := HSZ.out
  refine wpIn_rangeFunc_ownG rfl (by omega) (gf := 26) (lb := #[.pointer (some ⟨w.heap.size + 1, 0, none⟩), .pointer (some ⟨w.heap.size + 1 + 1, 0, none⟩)]) rfl trivial (enters_of Try.func26 (by kernel_rfl) rfl)
    hst kept_t (kept_b (by omega)) (Below.refl _ _) (fun _ => rfl)
    (fun pre W => (∃ v, Boxed W w.heap.size 25 v ∧ W.ownsRow (w.heap.size + 3) 9 1 v (full pre).length ((full pre).map Value.string) ∧ True) ∧ Below w.heap.size w W ∧ w.heap.size + 3 ≤ W.heap.size)
    (fun _ _ _ => False)
    (OwnFrom.and (Own.from (holdsRow_own (w.heap.size + 3) w.heap.size 25 9 1 (fun (pre : List ByteArray) => (full pre).length) (fun (pre : List ByteArray) => (full pre).map Value.string) (fun _ _ => True)) _) (OwnFrom.and (ownFrom_below (Nat.le_refl _) (by omega)) (Own.from (fun _ W W' _ h hg _ => Nat.le_trans h hg.size) _)))
    (fun _ _ _ _ _ hs _ _ => hs)
    ⟨⟨_, bO1, World.ownsRow_nil _ _ _ _, trivial⟩, hb2, by omega⟩
    (fun x => { tmps := #[.string s, undef, .slice none 0 0, .pointer (some ⟨w.heap.size, 0, none⟩), .string x, .string s, .func (.func 26) #[] #[.pointer (some ⟨w.heap.size + 1, 0, none⟩), .pointer (some ⟨w.heap.size + 1 + 1, 0, none⟩)], .string x, undef, undef, undef, undef, undef, undef, undef], defers := [] }) ?assign ?body ?done ?stop
  case assign =>
    intro l x W K hK
    gi_wp2
    exact hK
  case body =>
    rintro l pre x W ⟨⟨v, hv, hrow, -⟩, hB, hB3⟩ hlt
    have hc := hv.cell
    have hfl : (full pre).length ≤ pre.length := List.length_filter_le _ _
    by_cases he : x.size = 0
    · have he1 : x.toList.isEmpty = true := by
        rw [ByteArray.toList_eq]
        have : x.data.toList.length = 0 := by simpa using he
        rw [List.length_eq_zero_iff.1 this]; rfl
      have hf : full (pre ++ [x]) = full pre := by simp [full, he]
      have HF := Lib.hid hf
      clear he hf
      gi_wp2
      exact ⟨KeepsFrom.refl _ _, ⟨Mid.refl _ _ _, (KeepsOthers.refl _).walks⟩, ⟨v, hv, by rw [HF.out]; exact hrow, trivial⟩, hB, hB3⟩
    · have he1 : x.toList.isEmpty = false := by
        rw [ByteArray.toList_eq]
        have : x.data.toList ≠ [] := fun h => he (by have := congrArg List.length h; simpa using this)
        simpa using this
      have hf : full (pre ++ [x]) = full pre ++ [x] := by simp [full, he]
      have HF := Lib.hid hf
      clear he hf
      gi_wp2_with (gi_at_builtin; refine wpListIn_append_own _ rfl _ _ 25 rfl (w.heap.size + 3) 9 i0 (.string ⟨#[]⟩) 1 16 Try.underlying25 hi hz0 hz1 hz2 rfl (by decide) _ _ _ rfl (hrow.alloc _) ⟨W.heap.size, 0, none⟩ 1 1 [.string x] rfl rfl (cell_one_new _ _ _) (by simp [Value.oneCell']) (by unfold maxLen; have := HN.out; omega) (by have := HN.out; omega) (by simp; omega) ?_; intro v' w1 hown' hgrow _; obtain ⟨g', cap', rfl⟩ := ownsRow_succ hown'; obtain ⟨hv1, hv2, hr2, hk2, hm2, hb2⟩ := appended2 hv (by decide) hrow hB3 (by omega) hown' hgrow; have hc1 := hv1.cell; have hf1 := hv1.frozen)
      exact ⟨hk2.from _, ⟨hm2, hk2.walks⟩, ⟨_, hv2, by rw [HF.out]; simpa using hr2, trivial⟩, hB.trans hb2, by have := hb2.size; omega⟩
  case done =>
    rintro D ys W hD rfl ⟨⟨v, hv, hrow, -⟩, hB, hB3⟩ hK
    have hc := hv.cell
    have hD2 : w.heap.size ≤ D := by omega
    have HBE : Hid (Below w.heap.size w (W.putObj D (.deferred none))) := Lib.hid (hB.trans (belowK_b (w := w) (Nat.le_refl _) W D _ _ hD2 hK rfl rfl))
    have HR := Lib.hid hrow
    clear hrow hB
    gi_wp2
    refine ⟨by simp, .inl ⟨_, _, rfl, run_takeDeferred hK, ?_⟩⟩
    exact ⟨_, results_tmp rfl _ _ _, v, rfl, ownsRow_putObj (ownsRow_low HR.out (by omega)) _ hK rfl, HBE.out⟩
  case stop =>
    rintro D c pre W _ _ h _
    exact h.elim
end Go.Proofs.Ytfldaknhdggdiaa
