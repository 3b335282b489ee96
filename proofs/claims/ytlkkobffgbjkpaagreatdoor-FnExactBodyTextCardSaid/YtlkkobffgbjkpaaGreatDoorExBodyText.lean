/-
  The law laws.FnExactBodyText answers true at every input. Conditions: none but the listed package-level variables, tied to the program's text by the card.
-/
import Derived.Test.YtlkkobffgbjkpaaGreatDoorOwn
import Derived.Test.YtlkkobffgbjkpaaGreatDoorOpenDefs
import Derived.Test.YtlkkobffgbjkpaaGreatDoorLawBody
import Derived.Test.YtlkkobffgbjkpaaGreatDoorLaid
import Derived.Test.YtlkkobffgbjkpaaGreatDoorTie
import Derived.Test.YtlkkobffgbjkpaaGreatDoorCards
import Derived.SevenTiedAt
import Derived.Lib.LaidTab
import Derived.Stop.LaidErr
import Derived.MakeChecks
namespace Go.Proofs.YtlkkobffgbjkpaaGreatDoor
open Go.ChangeShapes Go.WideShapes Go.ChangeAt Go.ChangeMaps Go.RowKit

abbrev laid_fnExactBodyText : List (String × DataW Unit) := [("math/bits.deBruijn32tab", Rows.laid_math_bits_deBruijn32tab), ("math/bits.deBruijn64tab", Rows.laid_math_bits_deBruijn64tab), ("internal/strconv.uint64pow10", Rows.laid_internal_strconv_uint64pow10), ("loop.example/g00711/impl.opSigns", Rows.laid_loop_example_g00711_impl_opSigns)]
theorem laid_fnExactBodyText_met (os : Os) (args : Array Value) : laidMetH Tryz.prog laid_fnExactBodyText ((World.doorLaid Tryz.prog 400 os).forCall (fun _ _ => 0) ⟨#[], args, []⟩).memory :=
  laidMetH_of_parts3 (fuel := 8) (laidMet_of_run' 8 (by kernel_rfl) (by kernel_rfl)) (by kernel_rfl) (by kernel_rfl)
theorem laid_fnExactBodyText_plain (W : World) : laidMetH Tryz.prog laid_fnExactBodyText W = laidMet Tryz.prog (laid_fnExactBodyText ++ []) W := MakeChecks.laidMetH_plain _ _ _ (by kernel_rfl)

set_option maxRecDepth 100000 in
theorem fnExactBodyText_lifted (os : Os) (started : os.Started) (H : Type) (enc : TypeId × Value → H) :
    ReturnsInHanded {} Tryz.checked os 6 .any (fun w args => (Rows.fnExactBodyTextSpec.pre enc Tryz.prog Tryz.f6 [] false w args ∧ laidMetH Tryz.prog laid_fnExactBodyText w) ∧ sizedMet enc Tryz.prog Tryz.f6 (OpenSpec.ofChange Rows.fnExactBodyTextSpec) false w args)
      (Rows.fnExactBodyTextSpec.post enc Tryz.prog Tryz.f6 false true false false) := by
  refine returnsInHanded_of_change_and (C := Tryz.checked) (X := fun w _ => laidMetH Tryz.prog laid_fnExactBodyText w) (fun _ _ _ hh h => h.of_heap hh) own started (by kernel_rfl) Tryz.func6
    (ChangeSpec.witness_shaped (enc := enc) (C := Tryz.checked) (os := os) (X := fun w _ => laidMetH Tryz.prog laid_fnExactBodyText w) false (World.doorLaid Tryz.prog 400 os) #[.slice none 0 0, .int .i64 0] 8 rfl (World.shaped_of_RefB (by kernel_rfl) (by kernel_rfl)) (by kernel_rfl) (by kernel_rfl) (by kernel_rfl) (laid_fnExactBodyText_met os _)) ?_
  intro W base args ds gs before hval0 hW _ _ hL _
  have hval : ∀ (j : Nat) t v, Tryz.f6.params[j]? = some t → args[j]? = some v → Value.okWide Tryz.prog W .any base t v := hval0
  have hW' := hW
  obtain ⟨p, q, hA0, hV, rfl, hfz, hnd⟩ := hW
  have hA : DataW.TrodAll enc Tryz.prog W 0 (fun _ => true) true Tryz.f6.params.toList args.toList ds p := hA0
  rw [Tryz.params6] at hA hval
  obtain ⟨v0, v1, d0, d1, p0, p1, rfl, rfl, rfl, h0, h1⟩ := trodAll_two hA
  obtain ⟨ad0, len0, cap0, rfl⟩ := okWide_slice Tryz.underlying43 (hval 0 43 v0 rfl rfl)
  have n0 := defs_in h0
  obtain ⟨x1, rfl, hd1, rfl, wx1⟩ := open_int Tryz.underlying3 (hval 1 3 v1 rfl rfl) h1
  have b1 : -9223372036854775808 ≤ x1 ∧ x1 ≤ 9223372036854775807 := by
    simp [Lit.wf, IntKind.min, IntKind.max, IntKind.signed, IntKind.bits] at wx1
    exact ⟨by omega, by omega⟩
  obtain ⟨g1, rfl⟩ := gs_one hV
  clear hA0 hval0
  rw [laid_fnExactBodyText_plain] at hL
  refine (law_FnExactBodyText x1 b1.1 b1.2 W ad0 len0 cap0 n0 (pow_of_laid (rest := [("loop.example/g00711/impl.opSigns", Rows.laid_loop_example_g00711_impl_opSigns)]) hL) (signs_of_head (laidMet.tail (laidMet.tail (laidMet.tail hL))))).mono fun e W' ⟨he, hb⟩ => ?_
  subst he
  exact ⟨_, rfl, law_postV laidOut (by kernel_rfl) (by kernel_rfl) hW' hb (tb := 4) (by kernel_rfl) Tryz.underlying4 ⟨rfl, rfl, rfl⟩⟩

theorem fnExactBodyText_holds : Rows.FnExactBodyTextSaid :=
  OpenClaim.holds_of_wide 6 Tryz.f6 rfl rfl rfl rfl rfl rfl rfl ⟨rfl, rfl, rfl, rfl, rfl⟩ rfl rfl rfl rfl rfl (by kernel_rfl) Tryz.func6 (by kernel_rfl)
    (of_decide_eq_true (by kernel_rfl)) (by unfold Func.isWrapper; rw [if_neg (of_decide_eq_false (by kernel_rfl))]; exact ⟨rfl, rfl⟩)
    (fun os started H enc _ => fnExactBodyText_lifted os started H enc)

theorem fnExactBodyText_card : Rows.FnExactBodyTextCardSaid :=
  Claim7.holds_tied_plain_at .later [] [.data, .data, .data, .data] true _ true
    fnExactBodyText_holds (fun _ h => by cases h) (by kernel_rfl) (fun _ h => by cases h) fnExactBodyText_row_tie rfl ⟨rfl, rfl⟩ (by kernel_rfl) rfl
    (fun f fn hf hfn => by
      obtain rfl : f = 6 := Option.some.inj ((show Tryz.prog.funcNamed Rows.fnExactBodyTextRow.func = some 6 by kernel_rfl).symm.trans hf) |>.symm
      obtain rfl : fn = Tryz.f6 := (Option.some.inj (Tryz.func6.symm.trans hfn)).symm
      exact ⟨by kernel_rfl, fun j t ht => by
        rw [Tryz.params6] at ht
        have hm : t ∈ [43, 3] := by simpa using Array.mem_of_getElem? ht
        have hall : ([43, 3].all fun u => !Tryz.prog.wantsStandIn u) = true := by kernel_rfl
        exact (show Tryz.prog.wantsStandIn t = false by simpa using List.all_eq_true.1 hall t hm)⟩)
    (by kernel_rfl)
end Go.Proofs.YtlkkobffgbjkpaaGreatDoor
