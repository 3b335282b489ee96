/-
  DERIVED. GIVEN WITH THE SEED: THE CARDS: each row of YtllhcdkbgknjdaaDoorRows.lean that lists a variable, with what it lists TIED to the program's text (the seventh form; the later family's looks); each row that meets fmt, with fmt's text TOLD by the authors' own Lean function (tested against real Go, not proved from fmt's source: count such statements apart). THE CARD IS WHAT COUNTS. Prove the row's statement (the work); the ties are given (YtllhcdkbgknjdaaDoorTie.lean); close each card by the builder's one call (the guide's Derived/Test/ToyasCard.lean, 'card_holds'). Laid BY PROGRAM, IN A SANDBOX (cutbox-door.mjs). By AI agents, Wed Nov 11 2026. No macro, syntax, notation, axiom, sorry.
-/
import Derived.Test.YtllhcdkbgknjdaaDoorRows
import GoSem.ClaimSeven
namespace Go.Proofs.YtllhcdkbgknjdaaDoor
namespace Rows

/-- THE TIED CARD OF 'laws.FnOpen'. -/
def fnOpenCard : Claim7 := { stood := { row := fnOpenRow, standIns := [], harness := (true, "cf3fb72588fcaf5aada0d32e3ca17c02fa9d82ff6f51f2c4835c78bd59bb408d"), looks := false }, kinds := [], alts := [], laidByText := true, laidKinds := [.data, .data], laidTests := true, laidLooks := .later }
def FnOpenCardSaid : Prop := Claim7.holds Tryd.pinned (.plain (OpenSpec.ofChange fnOpenSpec)) fnOpenCard

/-- THE TIED CARD OF 'laws.FnExactEdOk'. -/
def fnExactEdOkCard : Claim7 := { stood := { row := fnExactEdOkRow, standIns := [], harness := (true, "cf3fb72588fcaf5aada0d32e3ca17c02fa9d82ff6f51f2c4835c78bd59bb408d"), looks := false }, kinds := [], alts := [], laidByText := true, laidKinds := [.data, .data], laidTests := true, laidLooks := .later }
def FnExactEdOkCardSaid : Prop := Claim7.holds Tryd.pinned (.plain (OpenSpec.ofChange fnExactEdOkSpec)) fnExactEdOkCard

/-- THE TIED CARD OF 'laws.FnExactOpenEd'. -/
def fnExactOpenEdCard : Claim7 := { stood := { row := fnExactOpenEdRow, standIns := [], harness := (true, "cf3fb72588fcaf5aada0d32e3ca17c02fa9d82ff6f51f2c4835c78bd59bb408d"), looks := false }, kinds := [], alts := [], laidByText := true, laidKinds := [.data, .data], laidTests := true, laidLooks := .later }
def FnExactOpenEdCardSaid : Prop := Claim7.holds Tryd.pinned (.plain (OpenSpec.ofChange fnExactOpenEdSpec)) fnExactOpenEdCard

/-- THE TIED CARD OF 'laws.FnExactEdCells'. -/
def fnExactEdCellsCard : Claim7 := { stood := { row := fnExactEdCellsRow, standIns := [], harness := (true, "cf3fb72588fcaf5aada0d32e3ca17c02fa9d82ff6f51f2c4835c78bd59bb408d"), looks := false }, kinds := [], alts := [], laidByText := true, laidKinds := [.data, .data], laidTests := true, laidLooks := .later }
def FnExactEdCellsCardSaid : Prop := Claim7.holds Tryd.pinned (.plain (OpenSpec.ofChange fnExactEdCellsSpec)) fnExactEdCellsCard

/-- THE SECOND FORM's CARD OF 'laws.FnOpen'. -/
def fnOpenUptoCard : Claim7 := { stood := { row := fnOpenUptoRow, standIns := [], harness := (true, "cf3fb72588fcaf5aada0d32e3ca17c02fa9d82ff6f51f2c4835c78bd59bb408d"), looks := false }, kinds := [], alts := [], laidByText := true, laidKinds := [.data, .data], laidTests := true, laidLooks := .later }
def FnOpenUptoCardSaid : Prop := Claim7.holds Tryd.pinned (.plain (OpenSpec.upto fnOpenSpec)) fnOpenUptoCard

/-- THE SECOND FORM's CARD OF 'laws.FnExactEdOk'. -/
def fnExactEdOkUptoCard : Claim7 := { stood := { row := fnExactEdOkUptoRow, standIns := [], harness := (true, "cf3fb72588fcaf5aada0d32e3ca17c02fa9d82ff6f51f2c4835c78bd59bb408d"), looks := false }, kinds := [], alts := [], laidByText := true, laidKinds := [.data, .data], laidTests := true, laidLooks := .later }
def FnExactEdOkUptoCardSaid : Prop := Claim7.holds Tryd.pinned (.plain (OpenSpec.upto fnExactEdOkSpec)) fnExactEdOkUptoCard

/-- THE SECOND FORM's CARD OF 'laws.FnExactOpenEd'. -/
def fnExactOpenEdUptoCard : Claim7 := { stood := { row := fnExactOpenEdUptoRow, standIns := [], harness := (true, "cf3fb72588fcaf5aada0d32e3ca17c02fa9d82ff6f51f2c4835c78bd59bb408d"), looks := false }, kinds := [], alts := [], laidByText := true, laidKinds := [.data, .data], laidTests := true, laidLooks := .later }
def FnExactOpenEdUptoCardSaid : Prop := Claim7.holds Tryd.pinned (.plain (OpenSpec.upto fnExactOpenEdSpec)) fnExactOpenEdUptoCard

/-- THE SECOND FORM's CARD OF 'laws.FnExactEdCells'. -/
def fnExactEdCellsUptoCard : Claim7 := { stood := { row := fnExactEdCellsUptoRow, standIns := [], harness := (true, "cf3fb72588fcaf5aada0d32e3ca17c02fa9d82ff6f51f2c4835c78bd59bb408d"), looks := false }, kinds := [], alts := [], laidByText := true, laidKinds := [.data, .data], laidTests := true, laidLooks := .later }
def FnExactEdCellsUptoCardSaid : Prop := Claim7.holds Tryd.pinned (.plain (OpenSpec.upto fnExactEdCellsSpec)) fnExactEdCellsUptoCard
end Rows
end Go.Proofs.YtllhcdkbgknjdaaDoor
