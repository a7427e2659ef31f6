/-
  DERIVED. GIVEN WITH THE SEED: THE CARDS: each row of YtgcgoehmgaokkaaDoorRows.lean that lists a variable, with what it lists TIED to the program's text (the seventh form; the later family's looks); each row that meets fmt, with fmt's text TOLD by the authors' own Lean function (tested against real Go, not proved from fmt's source: count such statements apart). THE CARD IS WHAT COUNTS. Prove the row's statement (the work); the ties are given (YtgcgoehmgaokkaaDoorTie.lean); close each card by the builder's one call (the guide's Derived/Test/ToyasCard.lean, 'card_holds'). Laid BY PROGRAM, IN A SANDBOX (cutbox-door.mjs). By AI agents, Wed Nov 11 2026. No macro, syntax, notation, axiom, sorry.
-/
import Derived.Test.YtgcgoehmgaokkaaDoorRows
import GoSem.ClaimSeven
namespace Go.Proofs.YtgcgoehmgaokkaaDoor
namespace Rows

/-- THE TIED CARD OF 'laws.FnExactSketchOk'. -/
def fnExactSketchOkCard : Claim7 := { stood := { row := fnExactSketchOkRow, standIns := [], harness := (true, "2ae7ce8606502a3c2435dc6ce52846b8e0098fcae054869572a2c8f704532e28"), looks := false }, kinds := [], alts := [], laidByText := true, laidKinds := [.data], laidTests := true, laidLooks := .later }
def FnExactSketchOkCardSaid : Prop := Claim7.holds Tryd.pinned (.plain (OpenSpec.ofChange fnExactSketchOkSpec)) fnExactSketchOkCard

/-- THE TIED CARD OF 'laws.FnExactPartsOf'. -/
def fnExactPartsOfCard : Claim7 := { stood := { row := fnExactPartsOfRow, standIns := [], harness := (true, "2ae7ce8606502a3c2435dc6ce52846b8e0098fcae054869572a2c8f704532e28"), looks := false }, kinds := [], alts := [], laidByText := true, laidKinds := [.data], laidTests := true, laidLooks := .later }
def FnExactPartsOfCardSaid : Prop := Claim7.holds Tryd.pinned (.plain (OpenSpec.ofChange fnExactPartsOfSpec)) fnExactPartsOfCard

/-- THE TIED CARD OF 'laws.FnExactHistoryOk'. -/
def fnExactHistoryOkCard : Claim7 := { stood := { row := fnExactHistoryOkRow, standIns := [], harness := (true, "2ae7ce8606502a3c2435dc6ce52846b8e0098fcae054869572a2c8f704532e28"), looks := false }, kinds := [], alts := [], laidByText := true, laidKinds := [.data], laidTests := true, laidLooks := .later }
def FnExactHistoryOkCardSaid : Prop := Claim7.holds Tryd.pinned (.plain (OpenSpec.ofChange fnExactHistoryOkSpec)) fnExactHistoryOkCard

/-- THE SECOND FORM's CARD OF 'laws.FnExactSketchOk'. -/
def fnExactSketchOkUptoCard : Claim7 := { stood := { row := fnExactSketchOkUptoRow, standIns := [], harness := (true, "2ae7ce8606502a3c2435dc6ce52846b8e0098fcae054869572a2c8f704532e28"), looks := false }, kinds := [], alts := [], laidByText := true, laidKinds := [.data], laidTests := true, laidLooks := .later }
def FnExactSketchOkUptoCardSaid : Prop := Claim7.holds Tryd.pinned (.plain (OpenSpec.upto fnExactSketchOkSpec)) fnExactSketchOkUptoCard

/-- THE SECOND FORM's CARD OF 'laws.FnExactPartsOf'. -/
def fnExactPartsOfUptoCard : Claim7 := { stood := { row := fnExactPartsOfUptoRow, standIns := [], harness := (true, "2ae7ce8606502a3c2435dc6ce52846b8e0098fcae054869572a2c8f704532e28"), looks := false }, kinds := [], alts := [], laidByText := true, laidKinds := [.data], laidTests := true, laidLooks := .later }
def FnExactPartsOfUptoCardSaid : Prop := Claim7.holds Tryd.pinned (.plain (OpenSpec.upto fnExactPartsOfSpec)) fnExactPartsOfUptoCard

/-- THE SECOND FORM's CARD OF 'laws.FnExactHistoryOk'. -/
def fnExactHistoryOkUptoCard : Claim7 := { stood := { row := fnExactHistoryOkUptoRow, standIns := [], harness := (true, "2ae7ce8606502a3c2435dc6ce52846b8e0098fcae054869572a2c8f704532e28"), looks := false }, kinds := [], alts := [], laidByText := true, laidKinds := [.data], laidTests := true, laidLooks := .later }
def FnExactHistoryOkUptoCardSaid : Prop := Claim7.holds Tryd.pinned (.plain (OpenSpec.upto fnExactHistoryOkSpec)) fnExactHistoryOkUptoCard
end Rows
end Go.Proofs.YtgcgoehmgaokkaaDoor
