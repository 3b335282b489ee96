/-
  impl.ShapeOk.
-/
import Derived.Test.YtlkkobffgbjkpaaAwait
namespace Go.Proofs.Ytlkkobffgbjkpaa
open Go.RowKit Go

set_option maxHeartbeats 1000000 in
theorem impl_shape (xs : List (Int × Int)) (hrg : RngO xs) (v : Value) (w : World) (hr : RdS w v xs) : Calls Try.prog 12 #[v] w fun e w' => e = .returned (.bool (shapeB xs)) ∧ Below w.heap.size w w' := by
  rw [shape_wait]
  by_cases hl : xs.length ≤ 60
  · have HC := Lib.hid (await_short xs hl hrg v w hr)
    obtain ⟨R, hR⟩ : ∃ R, (decide (xs.length ≤ 60) && decide (waitG xs [] = some [])) = R := ⟨_, rfl⟩
    rw [hR]
    have HRR := Lib.hid hR
    have HL := Lib.hid hl
    clear hR hl hr hrg
    go_enter Try.func12, Try.ntmps12
    go_wp2_with fail
    refine HC.out.mono ?_
    rintro e w2 (⟨st, A2, c2, ho, rfl, hb2⟩ | ⟨ho, rfl, hb2⟩)
    · have HE : Hid (R = decide (st.length = 0)) := Lib.hid (by
        have h1 := HRR.out
        rw [ho] at h1
        rw [← h1]
        have := HL.out
        simp [this])
      have HB2 := Lib.hid hb2
      obtain ⟨m, hm⟩ : ∃ m, st.length = m := ⟨_, rfl⟩
      rw [hm] at HE ⊢
      clear ho hb2 hm HC HRR
      by_cases h0 : m = 0
      · subst h0
        go_wp2_with fail
        go_ret
        exact ⟨by rw [HE.out]; rfl, HB2.out⟩
      · have q0 : ((m : Int) == 0) = false := by simp; omega
        have HE2 : Hid (R = false) := Lib.hid (by rw [HE.out]; simpa using h0)
        clear HE h0
        go_wp2_with fail
        go_ret
        exact ⟨by rw [HE2.out]; rfl, HB2.out⟩
    · have HE : Hid (R = false) := Lib.hid (by
        have h1 := HRR.out
        rw [ho] at h1
        simpa using h1.symm)
      have HB2 := Lib.hid hb2
      clear ho hb2 HC HRR
      go_wp2_with fail
      go_ret
      exact ⟨by rw [HE.out]; rfl, HB2.out⟩
  · have HC := Lib.hid (await_long xs hl v w hr)
    have hs : (decide (xs.length ≤ 60) && decide (waitG xs [] = some [])) = false := by simp [hl]
    rw [hs]
    clear hs hl hr hrg
    go_enter Try.func12, Try.ntmps12
    go_wp2_with fail
    refine HC.out.mono ?_
    rintro e w2 ⟨rfl, hb2⟩
    have HB2 := Lib.hid hb2
    clear hb2 HC
    go_wp2_with fail
    go_ret
    exact ⟨rfl, HB2.out⟩
end Go.Proofs.Ytlkkobffgbjkpaa
