/-
  DERIVED. GIVEN WITH THE SEED: THE CARDS: each row of YtmoclinccmhijaaDoorRows.lean that lists a variable, with what it lists TIED to the program's text (the seventh form; the later family's looks); each row that meets fmt, with fmt's text TOLD by the authors' own Lean function (tested against real Go, not proved from fmt's source: count such statements apart). THE CARD IS WHAT COUNTS. Prove the row's statement (the work); the ties are given (YtmoclinccmhijaaDoorTie.lean); close each card by the builder's one call (the guide's Derived/Test/ToyasCard.lean, 'card_holds'). Laid BY PROGRAM, IN A SANDBOX (cutbox-door.mjs). By AI agents, Wed Nov 11 2026. No macro, syntax, notation, axiom, sorry.
-/
import Derived.Test.YtmoclinccmhijaaDoorRows
import GoSem.ClaimSeven
namespace Go.Proofs.YtmoclinccmhijaaDoor
namespace Rows

/-- THE TIED CARD OF 'laws.FnExactFormatExpr'. -/
def fnExactFormatExprCard : Claim7 := { stood := { row := fnExactFormatExprRow, standIns := [], harness := (true, "ac6fc6c521fc3cef7c7ba090281e941b5ff2255715b746c129ca7677fa4ac2e0"), looks := false }, kinds := [], alts := [], laidByText := true, laidKinds := [.data, .data, .data], laidTests := true, laidLooks := .later }
def FnExactFormatExprCardSaid : Prop := Claim7.holds Tryd.pinned (.plain (OpenSpec.ofChange fnExactFormatExprSpec)) fnExactFormatExprCard

/-- THE TIED CARD OF 'laws.FnExactFilesValid'. -/
def fnExactFilesValidCard : Claim7 := { stood := { row := fnExactFilesValidRow, standIns := [], harness := (true, "ac6fc6c521fc3cef7c7ba090281e941b5ff2255715b746c129ca7677fa4ac2e0"), looks := false }, kinds := [], alts := [], laidByText := true, laidKinds := [.data, .pinned], laidTests := true, laidLooks := .later }
def FnExactFilesValidCardSaid : Prop := Claim7.holds Tryd.pinned (.plain (OpenSpec.ofChange fnExactFilesValidSpec)) fnExactFilesValidCard

/-- THE TIED CARD OF 'laws.FnExactOpenBase'. -/
def fnExactOpenBaseCard : Claim7 := { stood := { row := fnExactOpenBaseRow, standIns := [], harness := (true, "ac6fc6c521fc3cef7c7ba090281e941b5ff2255715b746c129ca7677fa4ac2e0"), looks := false }, kinds := [], alts := [], laidByText := true, laidKinds := [.data, .pinned], laidTests := true, laidLooks := .later }
def FnExactOpenBaseCardSaid : Prop := Claim7.holds Tryd.pinned (.plain (OpenSpec.ofChange fnExactOpenBaseSpec)) fnExactOpenBaseCard

/-- THE SECOND FORM's CARD OF 'laws.FnExactFormatExpr'. -/
def fnExactFormatExprUptoCard : Claim7 := { stood := { row := fnExactFormatExprUptoRow, standIns := [], harness := (true, "ac6fc6c521fc3cef7c7ba090281e941b5ff2255715b746c129ca7677fa4ac2e0"), looks := false }, kinds := [], alts := [], laidByText := true, laidKinds := [.data, .data, .data], laidTests := true, laidLooks := .later }
def FnExactFormatExprUptoCardSaid : Prop := Claim7.holds Tryd.pinned (.plain (OpenSpec.upto fnExactFormatExprSpec)) fnExactFormatExprUptoCard

/-- THE SECOND FORM's CARD OF 'laws.FnExactFilesValid'. -/
def fnExactFilesValidUptoCard : Claim7 := { stood := { row := fnExactFilesValidUptoRow, standIns := [], harness := (true, "ac6fc6c521fc3cef7c7ba090281e941b5ff2255715b746c129ca7677fa4ac2e0"), looks := false }, kinds := [], alts := [], laidByText := true, laidKinds := [.data, .pinned], laidTests := true, laidLooks := .later }
def FnExactFilesValidUptoCardSaid : Prop := Claim7.holds Tryd.pinned (.plain (OpenSpec.upto fnExactFilesValidSpec)) fnExactFilesValidUptoCard

/-- THE SECOND FORM's CARD OF 'laws.FnExactOpenBase'. -/
def fnExactOpenBaseUptoCard : Claim7 := { stood := { row := fnExactOpenBaseUptoRow, standIns := [], harness := (true, "ac6fc6c521fc3cef7c7ba090281e941b5ff2255715b746c129ca7677fa4ac2e0"), looks := false }, kinds := [], alts := [], laidByText := true, laidKinds := [.data, .pinned], laidTests := true, laidLooks := .later }
def FnExactOpenBaseUptoCardSaid : Prop := Claim7.holds Tryd.pinned (.plain (OpenSpec.upto fnExactOpenBaseSpec)) fnExactOpenBaseUptoCard
end Rows
end Go.Proofs.YtmoclinccmhijaaDoor
