/-
  DERIVED. GIVEN WITH THE SEED: THE CARDS: each row of YtiaoopikmkakbaaDoorRows.lean that lists a variable, with what it lists TIED to the program's text (the seventh form; the later family's looks); each row that meets fmt, with fmt's text TOLD by the authors' own Lean function (tested against real Go, not proved from fmt's source: count such statements apart). THE CARD IS WHAT COUNTS. Prove the row's statement (the work); the ties are given (YtiaoopikmkakbaaDoorTie.lean); close each card by the builder's one call (the guide's Derived/Test/ToyasCard.lean, 'card_holds'). Laid BY PROGRAM, IN A SANDBOX (cutbox-door.mjs). By AI agents, Wed Nov 11 2026. No macro, syntax, notation, axiom, sorry.
-/
import Derived.Test.YtiaoopikmkakbaaDoorRows
import GoSem.ClaimSeven
namespace Go.Proofs.YtiaoopikmkakbaaDoor
namespace Rows

/-- THE TIED CARD OF 'laws.FnPosOf'. -/
def fnPosOfCard : Claim7 := { stood := { row := fnPosOfRow, standIns := [], harness := (true, "3110638900075c44b762089df9b8b556e7fdb4f278ca044b8dbb3d42ab8eba90"), looks := false }, kinds := [], alts := [], laidByText := true, laidKinds := [.data, .pinned], laidTests := true, laidLooks := .later }
def FnPosOfCardSaid : Prop := Claim7.holds Tryd.pinned (.plain (OpenSpec.ofChange fnPosOfSpec)) fnPosOfCard

/-- THE TIED CARD OF 'laws.FnOffsetOf'. -/
def fnOffsetOfCard : Claim7 := { stood := { row := fnOffsetOfRow, standIns := [], harness := (true, "3110638900075c44b762089df9b8b556e7fdb4f278ca044b8dbb3d42ab8eba90"), looks := false }, kinds := [], alts := [], laidByText := true, laidKinds := [.data, .pinned], laidTests := true, laidLooks := .later }
def FnOffsetOfCardSaid : Prop := Claim7.holds Tryd.pinned (.plain (OpenSpec.ofChange fnOffsetOfSpec)) fnOffsetOfCard

/-- THE TIED CARD OF 'laws.FnLinesOf'. -/
def fnLinesOfCard : Claim7 := { stood := { row := fnLinesOfRow, standIns := [], harness := (true, "3110638900075c44b762089df9b8b556e7fdb4f278ca044b8dbb3d42ab8eba90"), looks := false }, kinds := [], alts := [], laidByText := true, laidKinds := [.data, .pinned], laidTests := true, laidLooks := .later }
def FnLinesOfCardSaid : Prop := Claim7.holds Tryd.pinned (.plain (OpenSpec.ofChange fnLinesOfSpec)) fnLinesOfCard

/-- THE TIED CARD OF 'laws.FnLineCount'. -/
def fnLineCountCard : Claim7 := { stood := { row := fnLineCountRow, standIns := [], harness := (true, "3110638900075c44b762089df9b8b556e7fdb4f278ca044b8dbb3d42ab8eba90"), looks := false }, kinds := [], alts := [], laidByText := true, laidKinds := [.data, .pinned], laidTests := true, laidLooks := .later }
def FnLineCountCardSaid : Prop := Claim7.holds Tryd.pinned (.plain (OpenSpec.ofChange fnLineCountSpec)) fnLineCountCard

/-- THE TIED CARD OF 'laws.FnExactOffsetOf'. -/
def fnExactOffsetOfCard : Claim7 := { stood := { row := fnExactOffsetOfRow, standIns := [], harness := (true, "3110638900075c44b762089df9b8b556e7fdb4f278ca044b8dbb3d42ab8eba90"), looks := false }, kinds := [], alts := [], laidByText := true, laidKinds := [.data, .pinned], laidTests := true, laidLooks := .later }
def FnExactOffsetOfCardSaid : Prop := Claim7.holds Tryd.pinned (.plain (OpenSpec.ofChange fnExactOffsetOfSpec)) fnExactOffsetOfCard

/-- THE TIED CARD OF 'laws.FnExactLinesOf'. -/
def fnExactLinesOfCard : Claim7 := { stood := { row := fnExactLinesOfRow, standIns := [], harness := (true, "3110638900075c44b762089df9b8b556e7fdb4f278ca044b8dbb3d42ab8eba90"), looks := false }, kinds := [], alts := [], laidByText := true, laidKinds := [.data, .pinned], laidTests := true, laidLooks := .later }
def FnExactLinesOfCardSaid : Prop := Claim7.holds Tryd.pinned (.plain (OpenSpec.ofChange fnExactLinesOfSpec)) fnExactLinesOfCard

/-- THE SECOND FORM's CARD OF 'laws.FnPosOf'. -/
def fnPosOfUptoCard : Claim7 := { stood := { row := fnPosOfUptoRow, standIns := [], harness := (true, "3110638900075c44b762089df9b8b556e7fdb4f278ca044b8dbb3d42ab8eba90"), looks := false }, kinds := [], alts := [], laidByText := true, laidKinds := [.data, .pinned], laidTests := true, laidLooks := .later }
def FnPosOfUptoCardSaid : Prop := Claim7.holds Tryd.pinned (.plain (OpenSpec.upto fnPosOfSpec)) fnPosOfUptoCard

/-- THE SECOND FORM's CARD OF 'laws.FnOffsetOf'. -/
def fnOffsetOfUptoCard : Claim7 := { stood := { row := fnOffsetOfUptoRow, standIns := [], harness := (true, "3110638900075c44b762089df9b8b556e7fdb4f278ca044b8dbb3d42ab8eba90"), looks := false }, kinds := [], alts := [], laidByText := true, laidKinds := [.data, .pinned], laidTests := true, laidLooks := .later }
def FnOffsetOfUptoCardSaid : Prop := Claim7.holds Tryd.pinned (.plain (OpenSpec.upto fnOffsetOfSpec)) fnOffsetOfUptoCard

/-- THE SECOND FORM's CARD OF 'laws.FnLinesOf'. -/
def fnLinesOfUptoCard : Claim7 := { stood := { row := fnLinesOfUptoRow, standIns := [], harness := (true, "3110638900075c44b762089df9b8b556e7fdb4f278ca044b8dbb3d42ab8eba90"), looks := false }, kinds := [], alts := [], laidByText := true, laidKinds := [.data, .pinned], laidTests := true, laidLooks := .later }
def FnLinesOfUptoCardSaid : Prop := Claim7.holds Tryd.pinned (.plain (OpenSpec.upto fnLinesOfSpec)) fnLinesOfUptoCard

/-- THE SECOND FORM's CARD OF 'laws.FnLineCount'. -/
def fnLineCountUptoCard : Claim7 := { stood := { row := fnLineCountUptoRow, standIns := [], harness := (true, "3110638900075c44b762089df9b8b556e7fdb4f278ca044b8dbb3d42ab8eba90"), looks := false }, kinds := [], alts := [], laidByText := true, laidKinds := [.data, .pinned], laidTests := true, laidLooks := .later }
def FnLineCountUptoCardSaid : Prop := Claim7.holds Tryd.pinned (.plain (OpenSpec.upto fnLineCountSpec)) fnLineCountUptoCard

/-- THE SECOND FORM's CARD OF 'laws.FnExactOffsetOf'. -/
def fnExactOffsetOfUptoCard : Claim7 := { stood := { row := fnExactOffsetOfUptoRow, standIns := [], harness := (true, "3110638900075c44b762089df9b8b556e7fdb4f278ca044b8dbb3d42ab8eba90"), looks := false }, kinds := [], alts := [], laidByText := true, laidKinds := [.data, .pinned], laidTests := true, laidLooks := .later }
def FnExactOffsetOfUptoCardSaid : Prop := Claim7.holds Tryd.pinned (.plain (OpenSpec.upto fnExactOffsetOfSpec)) fnExactOffsetOfUptoCard

/-- THE SECOND FORM's CARD OF 'laws.FnExactLinesOf'. -/
def fnExactLinesOfUptoCard : Claim7 := { stood := { row := fnExactLinesOfUptoRow, standIns := [], harness := (true, "3110638900075c44b762089df9b8b556e7fdb4f278ca044b8dbb3d42ab8eba90"), looks := false }, kinds := [], alts := [], laidByText := true, laidKinds := [.data, .pinned], laidTests := true, laidLooks := .later }
def FnExactLinesOfUptoCardSaid : Prop := Claim7.holds Tryd.pinned (.plain (OpenSpec.upto fnExactLinesOfSpec)) fnExactLinesOfUptoCard
end Rows
end Go.Proofs.YtiaoopikmkakbaaDoor
