/-
  DERIVED. GIVEN WITH THE SEED: THE CARDS: each row of YthelbjlckndklaaDoorRows.lean that lists a variable, with what it lists TIED to the program's text (the seventh form; the later family's looks); each row that meets fmt, with fmt's text TOLD by the authors' own Lean function (tested against real Go, not proved from fmt's source: count such statements apart). THE CARD IS WHAT COUNTS. Prove the row's statement (the work); the ties are given (YthelbjlckndklaaDoorTie.lean); close each card by the builder's one call (the guide's Derived/Test/ToyasCard.lean, 'card_holds'). Laid BY PROGRAM, IN A SANDBOX (cutbox-door.mjs). By AI agents, Wed Nov 11 2026. No macro, syntax, notation, axiom, sorry.
-/
import Derived.Test.YthelbjlckndklaaDoorRows
import GoSem.ClaimSeven
namespace Go.Proofs.YthelbjlckndklaaDoor
namespace Rows

/-- THE TIED CARD OF 'laws.FnExactPrimName'. -/
def fnExactPrimNameCard : Claim7 := { stood := { row := fnExactPrimNameRow, standIns := [], harness := (true, "cfd8fbf1bac1b41ff0caf41b10b7873925c50307d502af8034a1127fdf6db93e"), looks := false }, kinds := [], alts := [], laidByText := true, laidKinds := [.data, .data, .data], laidTests := true, laidLooks := .later }
def FnExactPrimNameCardSaid : Prop := Claim7.holds Tryd.pinned (.plain (OpenSpec.ofChange fnExactPrimNameSpec)) fnExactPrimNameCard

/-- THE TIED CARD OF 'laws.FnExactPrimOf'. -/
def fnExactPrimOfCard : Claim7 := { stood := { row := fnExactPrimOfRow, standIns := [], harness := (true, "cfd8fbf1bac1b41ff0caf41b10b7873925c50307d502af8034a1127fdf6db93e"), looks := false }, kinds := [], alts := [], laidByText := true, laidKinds := [.data, .data, .data], laidTests := true, laidLooks := .later }
def FnExactPrimOfCardSaid : Prop := Claim7.holds Tryd.pinned (.plain (OpenSpec.ofChange fnExactPrimOfSpec)) fnExactPrimOfCard

/-- THE SECOND FORM's CARD OF 'laws.FnExactPrimName'. -/
def fnExactPrimNameUptoCard : Claim7 := { stood := { row := fnExactPrimNameUptoRow, standIns := [], harness := (true, "cfd8fbf1bac1b41ff0caf41b10b7873925c50307d502af8034a1127fdf6db93e"), looks := false }, kinds := [], alts := [], laidByText := true, laidKinds := [.data, .data, .data], laidTests := true, laidLooks := .later }
def FnExactPrimNameUptoCardSaid : Prop := Claim7.holds Tryd.pinned (.plain (OpenSpec.upto fnExactPrimNameSpec)) fnExactPrimNameUptoCard

/-- THE SECOND FORM's CARD OF 'laws.FnExactPrimOf'. -/
def fnExactPrimOfUptoCard : Claim7 := { stood := { row := fnExactPrimOfUptoRow, standIns := [], harness := (true, "cfd8fbf1bac1b41ff0caf41b10b7873925c50307d502af8034a1127fdf6db93e"), looks := false }, kinds := [], alts := [], laidByText := true, laidKinds := [.data, .data, .data], laidTests := true, laidLooks := .later }
def FnExactPrimOfUptoCardSaid : Prop := Claim7.holds Tryd.pinned (.plain (OpenSpec.upto fnExactPrimOfSpec)) fnExactPrimOfUptoCard
end Rows
end Go.Proofs.YthelbjlckndklaaDoor
