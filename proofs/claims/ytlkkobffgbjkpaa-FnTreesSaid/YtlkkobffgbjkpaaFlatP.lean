/-
  impl.FlatOf.
-/
import Derived.Test.YtlkkobffgbjkpaaFlatI
import Derived.Test.YtlkkobffgbjkpaaFlatO
namespace Go.Proofs.Ytlkkobffgbjkpaa
open Go.RowKit Go

set_option maxHeartbeats 2000000 in
theorem impl_flatof (ts : List Tr) (hz : sizeL ts ≤ 2000000) (hrg : rgL ts) (v : Value) (w : World) (hr : RdT w v ts) : Calls Try.prog 15 #[v] w (NewO (flat8 ts) w) := by
  have HC := Lib.hid (impl_laidL (sizeL ts + 1) ts (by omega) hz hrg w v hr [] (.slice none 0 0) w (by simp) (Below.refl _ _) (World.ownsRow_nil _ _ _ _))
  have HF : Hid (goodL ts → (flatL ts).length ≤ 60 → flat8 ts = flatL ts) := Lib.hid (fun h h2 => by
    unfold flat8
    rw [if_pos ⟨h.1, h2, h.2⟩])
  have HF2 : Hid (¬ (goodL ts ∧ (flatL ts).length ≤ 60) → flat8 ts = []) := Lib.hid (fun h => by
    unfold flat8
    rw [if_neg]
    rintro ⟨h2, h3, h4⟩
    exact h ⟨⟨h2, h4⟩, h3⟩)
  have HLN : Hid ((flatL ts).length ≤ 4000000) := Lib.hid (by have := flatL_len ts; omega)
  clear hr hz hrg
  go_enter Try.func15, Try.ntmps15
  go_wp2_with fail
  refine HC.out.mono ?_
  rintro e w2 (⟨hg, -, u, rfl, ho2, hb2, -, -⟩ | ⟨hno, rfl, hb2, -⟩)
  · have HB2 := Lib.hid hb2
    rw [List.nil_append] at ho2
    have R2 := Lib.hid ho2
    obtain ⟨U, uc, rfl⟩ := own_formS ho2
    obtain ⟨L, hL⟩ : ∃ L, (flatL ts).length = L := ⟨_, rfl⟩
    have HL := Lib.hid hL
    rw [hL] at HF HF2 R2 HLN ⊢
    have hln := HLN.out
    have HG := Lib.hid hg
    clear hb2 ho2 hL HC hg HLN
    by_cases h60 : L ≤ 60
    · have HE := Lib.hid (HF.out HG.out h60)
      have c1 : ¬ (60 : Int) < (L : Int) := by omega
      clear HF HF2 HG
      go_wp2_with fail
      go_ret
      exact ⟨_, rfl, by rw [HE.out, HL.out]; exact R2.out, HB2.out⟩
    · have HE := Lib.hid (HF2.out (fun h => h60 h.2))
      have c1 : (60 : Int) < (L : Int) := by omega
      clear HF HF2 HG
      go_wp2_with fail
      go_ret
      exact ⟨_, rfl, by rw [HE.out]; exact World.ownsRow_nil _ _ _ _, HB2.out⟩
  · have HB2 := Lib.hid hb2
    have HE := Lib.hid (HF2.out (by simpa using hno))
    clear hb2 hno HC
    go_wp2_with fail
    go_ret
    exact ⟨_, rfl, by rw [HE.out]; exact World.ownsRow_nil _ _ _ _, HB2.out⟩
end Go.Proofs.Ytlkkobffgbjkpaa
