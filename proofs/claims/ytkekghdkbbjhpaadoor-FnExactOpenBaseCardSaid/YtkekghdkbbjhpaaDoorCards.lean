/-
  DERIVED. GIVEN WITH THE SEED: THE CARDS: each row of YtkekghdkbbjhpaaDoorRows.lean that lists a variable, with what it lists TIED to the program's text (the seventh form; the later family's looks); each row that meets fmt, with fmt's text TOLD by the authors' own Lean function (tested against real Go, not proved from fmt's source: count such statements apart). THE CARD IS WHAT COUNTS. Prove the row's statement (the work); the ties are given (YtkekghdkbbjhpaaDoorTie.lean); close each card by the builder's one call (the guide's Derived/Test/ToyasCard.lean, 'card_holds'). Laid BY PROGRAM, IN A SANDBOX (cutbox-door.mjs). By AI agents, Wed Nov 11 2026. No macro, syntax, notation, axiom, sorry.
-/
import Derived.Test.YtkekghdkbbjhpaaDoorRows
import GoSem.ClaimSeven
namespace Go.Proofs.YtkekghdkbbjhpaaDoor
namespace Rows

/-- THE TIED CARD OF 'laws.FnExactFindFile'. -/
def fnExactFindFileCard : Claim7 := { stood := { row := fnExactFindFileRow, standIns := [], harness := (true, "73ae8e515b9095ca308b2c0858dab26f51e90473015b6ce4fab2a89ea361814f"), looks := false }, kinds := [], alts := [], laidByText := true, laidKinds := [.data, .pinned], laidTests := true, laidLooks := .later }
def FnExactFindFileCardSaid : Prop := Claim7.holds Tryd.pinned (.plain (OpenSpec.ofChange fnExactFindFileSpec)) fnExactFindFileCard

/-- THE TIED CARD OF 'laws.FnExactOpenBase'. -/
def fnExactOpenBaseCard : Claim7 := { stood := { row := fnExactOpenBaseRow, standIns := [], harness := (true, "73ae8e515b9095ca308b2c0858dab26f51e90473015b6ce4fab2a89ea361814f"), looks := false }, kinds := [], alts := [], laidByText := true, laidKinds := [.data, .pinned], laidTests := true, laidLooks := .later }
def FnExactOpenBaseCardSaid : Prop := Claim7.holds Tryd.pinned (.plain (OpenSpec.ofChange fnExactOpenBaseSpec)) fnExactOpenBaseCard

/-- THE TIED CARD OF 'laws.FnExactMemoOf'. -/
def fnExactMemoOfCard : Claim7 := { stood := { row := fnExactMemoOfRow, standIns := [], harness := (true, "73ae8e515b9095ca308b2c0858dab26f51e90473015b6ce4fab2a89ea361814f"), looks := false }, kinds := [], alts := [], laidByText := true, laidKinds := [.data, .pinned], laidTests := true, laidLooks := .later }
def FnExactMemoOfCardSaid : Prop := Claim7.holds Tryd.pinned (.plain (OpenSpec.ofChange fnExactMemoOfSpec)) fnExactMemoOfCard

/-- THE TIED CARD OF 'laws.FnReplayChanges'. -/
def fnReplayChangesCard : Claim7 := { stood := { row := fnReplayChangesRow, standIns := [], harness := (true, "73ae8e515b9095ca308b2c0858dab26f51e90473015b6ce4fab2a89ea361814f"), looks := false }, kinds := [], alts := [], laidByText := true, laidKinds := [.data, .pinned], laidTests := true, laidLooks := .later }
def FnReplayChangesCardSaid : Prop := Claim7.holds Tryd.pinned (.plain (OpenSpec.ofChange fnReplayChangesSpec)) fnReplayChangesCard

/-- THE SECOND FORM's CARD OF 'laws.FnExactFindFile'. -/
def fnExactFindFileUptoCard : Claim7 := { stood := { row := fnExactFindFileUptoRow, standIns := [], harness := (true, "73ae8e515b9095ca308b2c0858dab26f51e90473015b6ce4fab2a89ea361814f"), looks := false }, kinds := [], alts := [], laidByText := true, laidKinds := [.data, .pinned], laidTests := true, laidLooks := .later }
def FnExactFindFileUptoCardSaid : Prop := Claim7.holds Tryd.pinned (.plain (OpenSpec.upto fnExactFindFileSpec)) fnExactFindFileUptoCard

/-- THE SECOND FORM's CARD OF 'laws.FnExactOpenBase'. -/
def fnExactOpenBaseUptoCard : Claim7 := { stood := { row := fnExactOpenBaseUptoRow, standIns := [], harness := (true, "73ae8e515b9095ca308b2c0858dab26f51e90473015b6ce4fab2a89ea361814f"), looks := false }, kinds := [], alts := [], laidByText := true, laidKinds := [.data, .pinned], laidTests := true, laidLooks := .later }
def FnExactOpenBaseUptoCardSaid : Prop := Claim7.holds Tryd.pinned (.plain (OpenSpec.upto fnExactOpenBaseSpec)) fnExactOpenBaseUptoCard

/-- THE SECOND FORM's CARD OF 'laws.FnExactMemoOf'. -/
def fnExactMemoOfUptoCard : Claim7 := { stood := { row := fnExactMemoOfUptoRow, standIns := [], harness := (true, "73ae8e515b9095ca308b2c0858dab26f51e90473015b6ce4fab2a89ea361814f"), looks := false }, kinds := [], alts := [], laidByText := true, laidKinds := [.data, .pinned], laidTests := true, laidLooks := .later }
def FnExactMemoOfUptoCardSaid : Prop := Claim7.holds Tryd.pinned (.plain (OpenSpec.upto fnExactMemoOfSpec)) fnExactMemoOfUptoCard

/-- THE SECOND FORM's CARD OF 'laws.FnReplayChanges'. -/
def fnReplayChangesUptoCard : Claim7 := { stood := { row := fnReplayChangesUptoRow, standIns := [], harness := (true, "73ae8e515b9095ca308b2c0858dab26f51e90473015b6ce4fab2a89ea361814f"), looks := false }, kinds := [], alts := [], laidByText := true, laidKinds := [.data, .pinned], laidTests := true, laidLooks := .later }
def FnReplayChangesUptoCardSaid : Prop := Claim7.holds Tryd.pinned (.plain (OpenSpec.upto fnReplayChangesSpec)) fnReplayChangesUptoCard
end Rows
end Go.Proofs.YtkekghdkbbjhpaaDoor
