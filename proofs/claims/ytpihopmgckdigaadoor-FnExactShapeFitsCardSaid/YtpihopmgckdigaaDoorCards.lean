/-
  DERIVED. GIVEN WITH THE SEED: THE CARDS: each row of YtpihopmgckdigaaDoorRows.lean that lists a variable, with what it lists TIED to the program's text (the seventh form; the later family's looks); each row that meets fmt, with fmt's text TOLD by the authors' own Lean function (tested against real Go, not proved from fmt's source: count such statements apart). THE CARD IS WHAT COUNTS. Prove the row's statement (the work); the ties are given (YtpihopmgckdigaaDoorTie.lean); close each card by the builder's one call (the guide's Derived/Test/ToyasCard.lean, 'card_holds'). Laid BY PROGRAM, IN A SANDBOX (cutbox-door.mjs). By AI agents, Wed Nov 11 2026. No macro, syntax, notation, axiom, sorry.
-/
import Derived.Test.YtpihopmgckdigaaDoorRows
import GoSem.ClaimSeven
namespace Go.Proofs.YtpihopmgckdigaaDoor
namespace Rows

/-- THE TIED CARD OF 'laws.FnReplayChanges'. -/
def fnReplayChangesCard : Claim7 := { stood := { row := fnReplayChangesRow, standIns := [], harness := (true, "e9a9eda3200c6f07e7a3b0a89d29ff44dcfdfd9f1d63eaddbb0d54cdb13e6723"), looks := true }, kinds := [], alts := [], laidByText := true, laidKinds := [.data, .pinned], laidTests := true, laidLooks := .later }
def FnReplayChangesCardSaid : Prop := Claim7.holds Tryd.pinned (.plain (OpenSpec.ofChange fnReplayChangesSpec)) fnReplayChangesCard

/-- THE TIED CARD OF 'laws.FnShapeFits'. -/
def fnShapeFitsCard : Claim7 := { stood := { row := fnShapeFitsRow, standIns := [], harness := (true, "e9a9eda3200c6f07e7a3b0a89d29ff44dcfdfd9f1d63eaddbb0d54cdb13e6723"), looks := true }, kinds := [], alts := [], laidByText := true, laidKinds := [.data, .data, .data, .data, .sentinel, .sentinel, .pinned], laidTests := true, laidLooks := .later }
def FnShapeFitsCardSaid : Prop := Claim7.holds Tryd.pinned (.plain (OpenSpec.ofChange fnShapeFitsSpec)) fnShapeFitsCard

/-- THE TIED CARD OF 'laws.FnExactShapeFits'. -/
def fnExactShapeFitsCard : Claim7 := { stood := { row := fnExactShapeFitsRow, standIns := [], harness := (true, "e9a9eda3200c6f07e7a3b0a89d29ff44dcfdfd9f1d63eaddbb0d54cdb13e6723"), looks := true }, kinds := [], alts := [], laidByText := true, laidKinds := [.data, .data, .data, .data, .sentinel, .sentinel, .pinned], laidTests := true, laidLooks := .later }
def FnExactShapeFitsCardSaid : Prop := Claim7.holds Tryd.pinned (.plain (OpenSpec.ofChange fnExactShapeFitsSpec)) fnExactShapeFitsCard

/-- THE SECOND FORM's CARD OF 'laws.FnReplayChanges'. -/
def fnReplayChangesUptoCard : Claim7 := { stood := { row := fnReplayChangesUptoRow, standIns := [], harness := (true, "e9a9eda3200c6f07e7a3b0a89d29ff44dcfdfd9f1d63eaddbb0d54cdb13e6723"), looks := true }, kinds := [], alts := [], laidByText := true, laidKinds := [.data, .pinned], laidTests := true, laidLooks := .later }
def FnReplayChangesUptoCardSaid : Prop := Claim7.holds Tryd.pinned (.plain (OpenSpec.upto fnReplayChangesSpec)) fnReplayChangesUptoCard

/-- THE SECOND FORM's CARD OF 'laws.FnShapeFits'. -/
def fnShapeFitsUptoCard : Claim7 := { stood := { row := fnShapeFitsUptoRow, standIns := [], harness := (true, "e9a9eda3200c6f07e7a3b0a89d29ff44dcfdfd9f1d63eaddbb0d54cdb13e6723"), looks := true }, kinds := [], alts := [], laidByText := true, laidKinds := [.data, .data, .data, .data, .sentinel, .sentinel, .pinned], laidTests := true, laidLooks := .later }
def FnShapeFitsUptoCardSaid : Prop := Claim7.holds Tryd.pinned (.plain (OpenSpec.upto fnShapeFitsSpec)) fnShapeFitsUptoCard

/-- THE SECOND FORM's CARD OF 'laws.FnExactShapeFits'. -/
def fnExactShapeFitsUptoCard : Claim7 := { stood := { row := fnExactShapeFitsUptoRow, standIns := [], harness := (true, "e9a9eda3200c6f07e7a3b0a89d29ff44dcfdfd9f1d63eaddbb0d54cdb13e6723"), looks := true }, kinds := [], alts := [], laidByText := true, laidKinds := [.data, .data, .data, .data, .sentinel, .sentinel, .pinned], laidTests := true, laidLooks := .later }
def FnExactShapeFitsUptoCardSaid : Prop := Claim7.holds Tryd.pinned (.plain (OpenSpec.upto fnExactShapeFitsSpec)) fnExactShapeFitsUptoCard
end Rows
end Go.Proofs.YtpihopmgckdigaaDoor
