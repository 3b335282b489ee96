/-
  spec.FlatOf.
-/
import Derived.Test.YtlkkobffgbjkpaaFlatS
import Derived.Test.YtlkkobffgbjkpaaShapeS
namespace Go.Proofs.Ytlkkobffgbjkpaa
open Go.RowKit Go

/-- A new list of ops. -/
def NewO (xs : List (Int × Int)) (w : World) (e : Ending) (w' : World) : Prop := ∃ u, e = .returned u ∧ w'.ownsRow w.heap.size 75 2 u xs.length (slv xs) ∧ Below w.heap.size w w'
set_option maxHeartbeats 2000000 in
theorem spec_flatof (ts : List Tr) (hz : sizeL ts ≤ 2000000) (hrg : RngO (flatL ts)) (v : Value) (w : World) (hr : RdT w v ts) : Calls Try.prog 17 #[v] w (NewO (flat8 ts) w) := by
  have HC := Lib.hid (spec_flatL (sizeL ts + 1) ts (by omega) hz 61 60 60 (by omega) (by omega) (by omega) v w hr)
  have HS := Lib.hid (fun u W (h : RdS W u (flatL ts)) => spec_shape (flatL ts) hrg u W h)
  have HLN : Hid ((flatL ts).length ≤ 4000000) := Lib.hid (by have := flatL_len ts; omega)
  have HF : Hid (shL ts = true → shapeB (flatL ts) = true → flat8 ts = flatL ts) := Lib.hid (fun h h2 => by
    rw [shape_flat h] at h2
    simp only [Bool.and_eq_true, decide_eq_true_eq] at h2
    unfold flat8
    rw [if_pos ⟨h, h2.1, h2.2⟩])
  have HF2 : Hid (shL ts = true → shapeB (flatL ts) = false → flat8 ts = []) := Lib.hid (fun h h2 => by
    rw [shape_flat h] at h2
    unfold flat8
    rw [if_neg]
    rintro ⟨-, h3, h4⟩
    rw [h4] at h2
    simp [h3] at h2)
  have HF3 : Hid (¬ (shL ts = true ∧ (flatL ts).length ≤ 60 ∧ (flatL ts).length + 1 ≤ 61) → flat8 ts = []) := Lib.hid (fun h => by
    unfold flat8
    rw [if_neg]
    rintro ⟨h2, h3, -⟩
    exact h ⟨h2, h3, by omega⟩)
  clear hr hz hrg
  go_enter Try.func17, Try.ntmps17
  go_wp2_with fail
  refine HC.out.mono ?_
  rintro e w2 (⟨hsh, -, u, rfl, ho2, hb2⟩ | ⟨hno, rfl, hb2⟩)
  · have HB2 := Lib.hid hb2
    have R2 := Lib.hid ho2
    have HSH := Lib.hid hsh
    clear hb2 ho2 hsh HC
    go_wp2_with fail
    refine (HS.out u w2 (RdS.of_own R2.out (by have := HLN.out; omega))).mono ?_
    rintro e w3 ⟨rfl, hb3⟩
    have HB3 := Lib.hid (HB2.out.trans (hb3.mono HB2.out.size))
    have R3 := Lib.hid (row_keep R2.out hb3)
    clear hb3 HB2 R2 HS
    cases hq : shapeB (flatL ts) with
    | true =>
      have HE := Lib.hid (HF.out HSH.out hq)
      clear hq HF HF2 HF3
      go_wp2_with fail
      go_ret
      exact ⟨u, rfl, by rw [HE.out]; exact R3.out, HB3.out⟩
    | false =>
      have HE := Lib.hid (HF2.out HSH.out hq)
      clear hq HF HF2 HF3
      go_wp2_with fail
      go_ret
      exact ⟨_, rfl, by rw [HE.out]; exact World.ownsRow_nil _ _ _ _, HB3.out⟩
  · have HB2 := Lib.hid hb2
    have HE := Lib.hid (HF3.out hno)
    clear hb2 hno HC
    go_wp2_with fail
    go_ret
    exact ⟨_, rfl, by rw [HE.out]; exact World.ownsRow_nil _ _ _ _, HB2.out⟩
end Go.Proofs.Ytlkkobffgbjkpaa
