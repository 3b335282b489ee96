/-
  DERIVED. GIVEN WITH THE SEED: THE CARDS: each row of YtaagaimafhadeaaDoorRows.lean that lists a variable, with what it lists TIED to the program's text (the seventh form; the later family's looks); each row that meets fmt, with fmt's text TOLD by the authors' own Lean function (tested against real Go, not proved from fmt's source: count such statements apart). THE CARD IS WHAT COUNTS. Prove the row's statement (the work); the ties are given (YtaagaimafhadeaaDoorTie.lean); close each card by the builder's one call (the guide's Derived/Test/ToyasCard.lean, 'card_holds'). Laid BY PROGRAM, IN A SANDBOX (cutbox-door.mjs). By AI agents, Wed Nov 11 2026. No macro, syntax, notation, axiom, sorry.
-/
import Derived.Test.YtaagaimafhadeaaDoorRows
import GoSem.ClaimSeven
namespace Go.Proofs.YtaagaimafhadeaaDoor
namespace Rows

/-- THE TIED CARD OF 'laws.FnPack'. -/
def fnPackCard : Claim7 := { stood := { row := fnPackRow, standIns := [], harness := (true, "b8c3d3340e0e8d120be4c07f7923d15fca749eb3a8d073fc334cc9fff50ac188"), looks := false }, kinds := [], alts := [], laidByText := true, laidKinds := [.data], laidTests := true, laidLooks := .later }
def FnPackCardSaid : Prop := Claim7.holds Tryd.pinned (.plain (OpenSpec.ofChange fnPackSpec)) fnPackCard

/-- THE TIED CARD OF 'laws.FnFields'. -/
def fnFieldsCard : Claim7 := { stood := { row := fnFieldsRow, standIns := [], harness := (true, "b8c3d3340e0e8d120be4c07f7923d15fca749eb3a8d073fc334cc9fff50ac188"), looks := false }, kinds := [], alts := [], laidByText := true, laidKinds := [.data], laidTests := true, laidLooks := .later }
def FnFieldsCardSaid : Prop := Claim7.holds Tryd.pinned (.plain (OpenSpec.ofChange fnFieldsSpec)) fnFieldsCard

/-- THE TIED CARD OF 'laws.FnExactPackOne'. -/
def fnExactPackOneCard : Claim7 := { stood := { row := fnExactPackOneRow, standIns := [], harness := (true, "b8c3d3340e0e8d120be4c07f7923d15fca749eb3a8d073fc334cc9fff50ac188"), looks := false }, kinds := [], alts := [], laidByText := true, laidKinds := [.data], laidTests := true, laidLooks := .later }
def FnExactPackOneCardSaid : Prop := Claim7.holds Tryd.pinned (.plain (OpenSpec.ofChange fnExactPackOneSpec)) fnExactPackOneCard

/-- THE TIED CARD OF 'laws.FnExactPack'. -/
def fnExactPackCard : Claim7 := { stood := { row := fnExactPackRow, standIns := [], harness := (true, "b8c3d3340e0e8d120be4c07f7923d15fca749eb3a8d073fc334cc9fff50ac188"), looks := false }, kinds := [], alts := [], laidByText := true, laidKinds := [.data], laidTests := true, laidLooks := .later }
def FnExactPackCardSaid : Prop := Claim7.holds Tryd.pinned (.plain (OpenSpec.ofChange fnExactPackSpec)) fnExactPackCard

/-- THE TIED CARD OF 'laws.FnExactUnpackOne'. -/
def fnExactUnpackOneCard : Claim7 := { stood := { row := fnExactUnpackOneRow, standIns := [], harness := (true, "b8c3d3340e0e8d120be4c07f7923d15fca749eb3a8d073fc334cc9fff50ac188"), looks := false }, kinds := [], alts := [], laidByText := true, laidKinds := [.data], laidTests := true, laidLooks := .later }
def FnExactUnpackOneCardSaid : Prop := Claim7.holds Tryd.pinned (.plain (OpenSpec.ofChange fnExactUnpackOneSpec)) fnExactUnpackOneCard

/-- THE TIED CARD OF 'laws.FnExactFieldOk'. -/
def fnExactFieldOkCard : Claim7 := { stood := { row := fnExactFieldOkRow, standIns := [], harness := (true, "b8c3d3340e0e8d120be4c07f7923d15fca749eb3a8d073fc334cc9fff50ac188"), looks := false }, kinds := [], alts := [], laidByText := true, laidKinds := [.data], laidTests := true, laidLooks := .later }
def FnExactFieldOkCardSaid : Prop := Claim7.holds Tryd.pinned (.plain (OpenSpec.ofChange fnExactFieldOkSpec)) fnExactFieldOkCard

/-- THE TIED CARD OF 'laws.FnExactUnpack'. -/
def fnExactUnpackCard : Claim7 := { stood := { row := fnExactUnpackRow, standIns := [], harness := (true, "b8c3d3340e0e8d120be4c07f7923d15fca749eb3a8d073fc334cc9fff50ac188"), looks := false }, kinds := [], alts := [], laidByText := true, laidKinds := [.data], laidTests := true, laidLooks := .later }
def FnExactUnpackCardSaid : Prop := Claim7.holds Tryd.pinned (.plain (OpenSpec.ofChange fnExactUnpackSpec)) fnExactUnpackCard

/-- THE SECOND FORM's CARD OF 'laws.FnPack'. -/
def fnPackUptoCard : Claim7 := { stood := { row := fnPackUptoRow, standIns := [], harness := (true, "b8c3d3340e0e8d120be4c07f7923d15fca749eb3a8d073fc334cc9fff50ac188"), looks := false }, kinds := [], alts := [], laidByText := true, laidKinds := [.data], laidTests := true, laidLooks := .later }
def FnPackUptoCardSaid : Prop := Claim7.holds Tryd.pinned (.plain (OpenSpec.upto fnPackSpec)) fnPackUptoCard

/-- THE SECOND FORM's CARD OF 'laws.FnFields'. -/
def fnFieldsUptoCard : Claim7 := { stood := { row := fnFieldsUptoRow, standIns := [], harness := (true, "b8c3d3340e0e8d120be4c07f7923d15fca749eb3a8d073fc334cc9fff50ac188"), looks := false }, kinds := [], alts := [], laidByText := true, laidKinds := [.data], laidTests := true, laidLooks := .later }
def FnFieldsUptoCardSaid : Prop := Claim7.holds Tryd.pinned (.plain (OpenSpec.upto fnFieldsSpec)) fnFieldsUptoCard

/-- THE SECOND FORM's CARD OF 'laws.FnExactPackOne'. -/
def fnExactPackOneUptoCard : Claim7 := { stood := { row := fnExactPackOneUptoRow, standIns := [], harness := (true, "b8c3d3340e0e8d120be4c07f7923d15fca749eb3a8d073fc334cc9fff50ac188"), looks := false }, kinds := [], alts := [], laidByText := true, laidKinds := [.data], laidTests := true, laidLooks := .later }
def FnExactPackOneUptoCardSaid : Prop := Claim7.holds Tryd.pinned (.plain (OpenSpec.upto fnExactPackOneSpec)) fnExactPackOneUptoCard

/-- THE SECOND FORM's CARD OF 'laws.FnExactPack'. -/
def fnExactPackUptoCard : Claim7 := { stood := { row := fnExactPackUptoRow, standIns := [], harness := (true, "b8c3d3340e0e8d120be4c07f7923d15fca749eb3a8d073fc334cc9fff50ac188"), looks := false }, kinds := [], alts := [], laidByText := true, laidKinds := [.data], laidTests := true, laidLooks := .later }
def FnExactPackUptoCardSaid : Prop := Claim7.holds Tryd.pinned (.plain (OpenSpec.upto fnExactPackSpec)) fnExactPackUptoCard

/-- THE SECOND FORM's CARD OF 'laws.FnExactUnpackOne'. -/
def fnExactUnpackOneUptoCard : Claim7 := { stood := { row := fnExactUnpackOneUptoRow, standIns := [], harness := (true, "b8c3d3340e0e8d120be4c07f7923d15fca749eb3a8d073fc334cc9fff50ac188"), looks := false }, kinds := [], alts := [], laidByText := true, laidKinds := [.data], laidTests := true, laidLooks := .later }
def FnExactUnpackOneUptoCardSaid : Prop := Claim7.holds Tryd.pinned (.plain (OpenSpec.upto fnExactUnpackOneSpec)) fnExactUnpackOneUptoCard

/-- THE SECOND FORM's CARD OF 'laws.FnExactFieldOk'. -/
def fnExactFieldOkUptoCard : Claim7 := { stood := { row := fnExactFieldOkUptoRow, standIns := [], harness := (true, "b8c3d3340e0e8d120be4c07f7923d15fca749eb3a8d073fc334cc9fff50ac188"), looks := false }, kinds := [], alts := [], laidByText := true, laidKinds := [.data], laidTests := true, laidLooks := .later }
def FnExactFieldOkUptoCardSaid : Prop := Claim7.holds Tryd.pinned (.plain (OpenSpec.upto fnExactFieldOkSpec)) fnExactFieldOkUptoCard

/-- THE SECOND FORM's CARD OF 'laws.FnExactUnpack'. -/
def fnExactUnpackUptoCard : Claim7 := { stood := { row := fnExactUnpackUptoRow, standIns := [], harness := (true, "b8c3d3340e0e8d120be4c07f7923d15fca749eb3a8d073fc334cc9fff50ac188"), looks := false }, kinds := [], alts := [], laidByText := true, laidKinds := [.data], laidTests := true, laidLooks := .later }
def FnExactUnpackUptoCardSaid : Prop := Claim7.holds Tryd.pinned (.plain (OpenSpec.upto fnExactUnpackSpec)) fnExactUnpackUptoCard
end Rows
end Go.Proofs.YtaagaimafhadeaaDoor
