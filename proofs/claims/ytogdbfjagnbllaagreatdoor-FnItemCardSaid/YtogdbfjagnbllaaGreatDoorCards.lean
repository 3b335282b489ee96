/-
  DERIVED. GIVEN WITH THE SEED: THE CARDS: each row of YtogdbfjagnbllaaGreatDoorRows.lean that lists a variable, with what it lists TIED to the program's text (the seventh form; the later family's looks); each row that meets fmt, with fmt's text TOLD by the authors' own Lean function (tested against real Go, not proved from fmt's source: count such statements apart). THE CARD IS WHAT COUNTS. Prove the row's statement (the work); the ties are given (YtogdbfjagnbllaaGreatDoorTie.lean); close each card by the builder's one call (the guide's Derived/Test/ToyasCard.lean, 'card_holds'). Laid BY PROGRAM, IN A SANDBOX (cutbox-door.mjs). By AI agents, Wed Nov 11 2026. No macro, syntax, notation, axiom, sorry.
-/
import Derived.Test.YtogdbfjagnbllaaGreatDoorRows
import GoSem.ClaimSeven
namespace Go.Proofs.YtogdbfjagnbllaaGreatDoor
namespace Rows

/-- THE TIED CARD OF 'laws.FnNotes'. -/
def fnNotesCard : Claim7 := { stood := { row := fnNotesRow, standIns := [], harness := (true, "c5955d34f0468028880bc1f3b87d36be21f01d4f734e67c37b09e1df7f7b11c4"), looks := true }, kinds := [], alts := [], laidByText := true, laidKinds := [.data, .data, .data, .sentinel, .sentinel, .data, .data], laidTests := true, laidLooks := .later }
def FnNotesCardSaid : Prop := Claim7.holds Tryz.pinned (.plain (OpenSpec.ofChange fnNotesSpec)) fnNotesCard

/-- THE TIED CARD OF 'laws.FnImport'. -/
def fnImportCard : Claim7 := { stood := { row := fnImportRow, standIns := [], harness := (true, "c5955d34f0468028880bc1f3b87d36be21f01d4f734e67c37b09e1df7f7b11c4"), looks := true }, kinds := [], alts := [], laidByText := true, laidKinds := [.data, .data, .data, .sentinel, .sentinel, .data, .data], laidTests := true, laidLooks := .later }
def FnImportCardSaid : Prop := Claim7.holds Tryz.pinned (.plain (OpenSpec.ofChange fnImportSpec)) fnImportCard

/-- THE TIED CARD OF 'laws.FnItem'. -/
def fnItemCard : Claim7 := { stood := { row := fnItemRow, standIns := [], harness := (true, "c5955d34f0468028880bc1f3b87d36be21f01d4f734e67c37b09e1df7f7b11c4"), looks := true }, kinds := [], alts := [], laidByText := true, laidKinds := [.data, .data, .data, .sentinel, .sentinel], laidTests := true, laidLooks := .later }
def FnItemCardSaid : Prop := Claim7.holds Tryz.pinned (.plain (OpenSpec.ofChange fnItemSpec)) fnItemCard

/-- THE TIED CARD OF 'laws.FnExactReadItem'. -/
def fnExactReadItemCard : Claim7 := { stood := { row := fnExactReadItemRow, standIns := [], harness := (true, "c5955d34f0468028880bc1f3b87d36be21f01d4f734e67c37b09e1df7f7b11c4"), looks := true }, kinds := [], alts := [], laidByText := true, laidKinds := [.data, .data, .data, .sentinel, .sentinel], laidTests := true, laidLooks := .later }
def FnExactReadItemCardSaid : Prop := Claim7.holds Tryz.pinned (.plain (OpenSpec.ofChange fnExactReadItemSpec)) fnExactReadItemCard

/-- THE TIED CARD OF 'laws.FnExactImport'. -/
def fnExactImportCard : Claim7 := { stood := { row := fnExactImportRow, standIns := [], harness := (true, "c5955d34f0468028880bc1f3b87d36be21f01d4f734e67c37b09e1df7f7b11c4"), looks := true }, kinds := [], alts := [], laidByText := true, laidKinds := [.data, .data, .data, .sentinel, .sentinel, .data, .data], laidTests := true, laidLooks := .later }
def FnExactImportCardSaid : Prop := Claim7.holds Tryz.pinned (.plain (OpenSpec.ofChange fnExactImportSpec)) fnExactImportCard

/-- THE SECOND FORM's CARD OF 'laws.FnNotes'. -/
def fnNotesUptoCard : Claim7 := { stood := { row := fnNotesUptoRow, standIns := [], harness := (true, "c5955d34f0468028880bc1f3b87d36be21f01d4f734e67c37b09e1df7f7b11c4"), looks := true }, kinds := [], alts := [], laidByText := true, laidKinds := [.data, .data, .data, .sentinel, .sentinel, .data, .data], laidTests := true, laidLooks := .later }
def FnNotesUptoCardSaid : Prop := Claim7.holds Tryz.pinned (.plain (OpenSpec.upto fnNotesSpec)) fnNotesUptoCard

/-- THE SECOND FORM's CARD OF 'laws.FnImport'. -/
def fnImportUptoCard : Claim7 := { stood := { row := fnImportUptoRow, standIns := [], harness := (true, "c5955d34f0468028880bc1f3b87d36be21f01d4f734e67c37b09e1df7f7b11c4"), looks := true }, kinds := [], alts := [], laidByText := true, laidKinds := [.data, .data, .data, .sentinel, .sentinel, .data, .data], laidTests := true, laidLooks := .later }
def FnImportUptoCardSaid : Prop := Claim7.holds Tryz.pinned (.plain (OpenSpec.upto fnImportSpec)) fnImportUptoCard

/-- THE SECOND FORM's CARD OF 'laws.FnItem'. -/
def fnItemUptoCard : Claim7 := { stood := { row := fnItemUptoRow, standIns := [], harness := (true, "c5955d34f0468028880bc1f3b87d36be21f01d4f734e67c37b09e1df7f7b11c4"), looks := true }, kinds := [], alts := [], laidByText := true, laidKinds := [.data, .data, .data, .sentinel, .sentinel], laidTests := true, laidLooks := .later }
def FnItemUptoCardSaid : Prop := Claim7.holds Tryz.pinned (.plain (OpenSpec.upto fnItemSpec)) fnItemUptoCard

/-- THE SECOND FORM's CARD OF 'laws.FnExactReadItem'. -/
def fnExactReadItemUptoCard : Claim7 := { stood := { row := fnExactReadItemUptoRow, standIns := [], harness := (true, "c5955d34f0468028880bc1f3b87d36be21f01d4f734e67c37b09e1df7f7b11c4"), looks := true }, kinds := [], alts := [], laidByText := true, laidKinds := [.data, .data, .data, .sentinel, .sentinel], laidTests := true, laidLooks := .later }
def FnExactReadItemUptoCardSaid : Prop := Claim7.holds Tryz.pinned (.plain (OpenSpec.upto fnExactReadItemSpec)) fnExactReadItemUptoCard

/-- THE SECOND FORM's CARD OF 'laws.FnExactImport'. -/
def fnExactImportUptoCard : Claim7 := { stood := { row := fnExactImportUptoRow, standIns := [], harness := (true, "c5955d34f0468028880bc1f3b87d36be21f01d4f734e67c37b09e1df7f7b11c4"), looks := true }, kinds := [], alts := [], laidByText := true, laidKinds := [.data, .data, .data, .sentinel, .sentinel, .data, .data], laidTests := true, laidLooks := .later }
def FnExactImportUptoCardSaid : Prop := Claim7.holds Tryz.pinned (.plain (OpenSpec.upto fnExactImportSpec)) fnExactImportUptoCard
end Rows
end Go.Proofs.YtogdbfjagnbllaaGreatDoor
