/-
  DERIVED. GIVEN WITH THE SEED: THE CARDS: each row of YtkekghdkbbjhpaaGreatDoorRows.lean that lists a variable, with what it lists TIED to the program's text (the seventh form; the later family's looks); each row that meets fmt, with fmt's text TOLD by the authors' own Lean function (tested against real Go, not proved from fmt's source: count such statements apart). THE CARD IS WHAT COUNTS. Prove the row's statement (the work); the ties are given (YtkekghdkbbjhpaaGreatDoorTie.lean); close each card by the builder's one call (the guide's Derived/Test/ToyasCard.lean, 'card_holds'). Laid BY PROGRAM, IN A SANDBOX (cutbox-door.mjs). By AI agents, Wed Nov 11 2026. No macro, syntax, notation, axiom, sorry.
-/
import Derived.Test.YtkekghdkbbjhpaaGreatDoorRows
import GoSem.ClaimSeven
namespace Go.Proofs.YtkekghdkbbjhpaaGreatDoor
namespace Rows

/-- THE TIED CARD OF 'laws.FnExactEditBase'. -/
def fnExactEditBaseCard : Claim7 := { stood := { row := fnExactEditBaseRow, standIns := [], harness := (true, "f46a1510dea7f893a26cc40739b637572636d92bc3beaf6c3b2828e6604837f6"), looks := true }, kinds := [], alts := [], laidByText := true, laidKinds := [.data, .pinned], laidTests := true, laidLooks := .later }
def FnExactEditBaseCardSaid : Prop := Claim7.holds Tryz.pinned (.plain (OpenSpec.ofChange fnExactEditBaseSpec)) fnExactEditBaseCard

/-- THE TIED CARD OF 'laws.FnExactReplayChanges'. -/
def fnExactReplayChangesCard : Claim7 := { stood := { row := fnExactReplayChangesRow, standIns := [], harness := (true, "f46a1510dea7f893a26cc40739b637572636d92bc3beaf6c3b2828e6604837f6"), looks := true }, kinds := [], alts := [], laidByText := true, laidKinds := [.data, .pinned], laidTests := true, laidLooks := .later }
def FnExactReplayChangesCardSaid : Prop := Claim7.holds Tryz.pinned (.plain (OpenSpec.ofChange fnExactReplayChangesSpec)) fnExactReplayChangesCard

/-- THE TIED CARD OF 'laws.FnFilesValid'. -/
def fnFilesValidCard : Claim7 := { stood := { row := fnFilesValidRow, standIns := [], harness := (true, "f46a1510dea7f893a26cc40739b637572636d92bc3beaf6c3b2828e6604837f6"), looks := true }, kinds := [], alts := [], laidByText := true, laidKinds := [.data, .handle, .pinned], laidTests := true, laidLooks := .later }
def FnFilesValidCardSaid : Prop := Claim7.holds Tryz.pinned (.plain (OpenSpec.ofChange fnFilesValidSpec)) fnFilesValidCard

/-- THE SECOND FORM's CARD OF 'laws.FnExactEditBase'. -/
def fnExactEditBaseUptoCard : Claim7 := { stood := { row := fnExactEditBaseUptoRow, standIns := [], harness := (true, "f46a1510dea7f893a26cc40739b637572636d92bc3beaf6c3b2828e6604837f6"), looks := true }, kinds := [], alts := [], laidByText := true, laidKinds := [.data, .pinned], laidTests := true, laidLooks := .later }
def FnExactEditBaseUptoCardSaid : Prop := Claim7.holds Tryz.pinned (.plain (OpenSpec.upto fnExactEditBaseSpec)) fnExactEditBaseUptoCard

/-- THE SECOND FORM's CARD OF 'laws.FnExactReplayChanges'. -/
def fnExactReplayChangesUptoCard : Claim7 := { stood := { row := fnExactReplayChangesUptoRow, standIns := [], harness := (true, "f46a1510dea7f893a26cc40739b637572636d92bc3beaf6c3b2828e6604837f6"), looks := true }, kinds := [], alts := [], laidByText := true, laidKinds := [.data, .pinned], laidTests := true, laidLooks := .later }
def FnExactReplayChangesUptoCardSaid : Prop := Claim7.holds Tryz.pinned (.plain (OpenSpec.upto fnExactReplayChangesSpec)) fnExactReplayChangesUptoCard

/-- THE SECOND FORM's CARD OF 'laws.FnFilesValid'. -/
def fnFilesValidUptoCard : Claim7 := { stood := { row := fnFilesValidUptoRow, standIns := [], harness := (true, "f46a1510dea7f893a26cc40739b637572636d92bc3beaf6c3b2828e6604837f6"), looks := true }, kinds := [], alts := [], laidByText := true, laidKinds := [.data, .handle, .pinned], laidTests := true, laidLooks := .later }
def FnFilesValidUptoCardSaid : Prop := Claim7.holds Tryz.pinned (.plain (OpenSpec.upto fnFilesValidSpec)) fnFilesValidUptoCard
end Rows
end Go.Proofs.YtkekghdkbbjhpaaGreatDoor
