/-
  NARROWER THAN 'FOR EVERY INPUT', by the rows' own cells (each row's printed sentence says how): FnExactFindFile: laid · FnExactOpenBase: laid · FnExactMemoOf: laid · FnReplayChanges: laid.
  DERIVED. THE GIVEN ROWS OF THIS SEAT. 4 by the template 'for every input the law returns true; each argument reads behind the call as it read before'; 0 by the template 'total and deterministic' (their statements: YtkekghdkbbjhpaaDoorTotals.lean).
  GIVEN WITH THE SEED: the statements are not yours to turn. If you find one false, say at which input.
  Laid BY PROGRAM, IN A SANDBOX (cutbox-rows.mjs): the forced cells as the released guide's own fill.sh prints them over the translation d2ccddb038b5db6e… (all of the seat's roots in one cut). By AI agents, Wed Nov 11 2026. No macro, syntax, notation, axiom, sorry.
-/
import Derived.Test.YtkekghdkbbjhpaaDoorChecked
import GoSem.PinnedTables
import GoSem.Claim
import GoSem.ClaimJoined
import GoSem.ClaimMapViews
import Derived.JoinedTies
import Derived.KernelRfl
namespace Go.Proofs.YtkekghdkbbjhpaaDoor
/- THE CELL 'sum', in the pinned program and in every row, IS THE sha256 OF THE DUMP (.gsa) THAT YtkekghdkbbjhpaaDoorProg.lean LOADS. Nothing in Lean hashes anything: it is a label: what it is worth is what the hold of that sum in a sandbox is worth. -/
noncomputable def Tryd.pinned : Pinned := { name := "ytkekghdkbbjhpaadoor", sum := "d2ccddb038b5db6e0d095fbdcb32952ef05418bdd775cdbefda6a22ed8ce7cb1", checked := Tryd.checked }
namespace Rows
def none {H : Type} : Left H := { results := [], args := [] }

/- WHAT THE LISTED PACKAGE-LEVEL VARIABLES READ AS WHEN THE CALL BEGINS. Each datum BY PROGRAM (the guide's laid-datum.mjs) off the statement by which the dump's own 'gosem.cut.vars' lays the variable. In a bare row this is a premise. The card (YtkekghdkbbjhpaaDoorCards.lean) ties it to the program's text. -/
def laid_unicode_utf8_acceptRanges {H : Type} : DataW H := .agg [.agg [.lit (.int .u8 128), .lit (.int .u8 191)], .agg [.lit (.int .u8 160), .lit (.int .u8 191)], .agg [.lit (.int .u8 128), .lit (.int .u8 159)], .agg [.lit (.int .u8 144), .lit (.int .u8 191)], .agg [.lit (.int .u8 128), .lit (.int .u8 143)], .agg [.lit (.int .u8 0), .lit (.int .u8 0)], .agg [.lit (.int .u8 0), .lit (.int .u8 0)], .agg [.lit (.int .u8 0), .lit (.int .u8 0)], .agg [.lit (.int .u8 0), .lit (.int .u8 0)], .agg [.lit (.int .u8 0), .lit (.int .u8 0)], .agg [.lit (.int .u8 0), .lit (.int .u8 0)], .agg [.lit (.int .u8 0), .lit (.int .u8 0)], .agg [.lit (.int .u8 0), .lit (.int .u8 0)], .agg [.lit (.int .u8 0), .lit (.int .u8 0)], .agg [.lit (.int .u8 0), .lit (.int .u8 0)], .agg [.lit (.int .u8 0), .lit (.int .u8 0)]]
/-- One of Go's own tables, pinned by name: the form's constant. -/
def laid_unicode_utf8_first : DataW Unit := Go.Pinned.utf8First

/-- 'laws.FnExactFindFile': WHATEVER THE INPUT: true; the input reads as it did. -/
def fnExactFindFileSpec : ChangeSpec := { name := "fnExactFindFile", fn := fun _ => fun
  | [d1, d2] => { results := [.lit (.bool true)], args := [d1, d2] }
  | _ => none }
def fnExactFindFileRow : OpenClaim := { program := "ytkekghdkbbjhpaadoor", sum := "d2ccddb038b5db6e0d095fbdcb32952ef05418bdd775cdbefda6a22ed8ce7cb1", func := "loop.example/livetyper/laws.FnExactFindFile", spec := "fnExactFindFile", inPlace := ["internal/bytealg.IndexByteString", "internal/bytealg.IndexString"], unfollowed := true, recurses := true, named := ["unicode/utf8.first", "unicode/utf8.acceptRanges", "internal/bytealg.MaxLen"], plainKeys := false, apart := false, laid := [("unicode/utf8.acceptRanges", laid_unicode_utf8_acceptRanges), ("unicode/utf8.first", laid_unicode_utf8_first)] }
def FnExactFindFileSaid : Prop := fnExactFindFileRow.holds Tryd.pinned (OpenSpec.ofChange fnExactFindFileSpec)

/-- ITS FALSE NEIGHBOUR: 'it returns false'. Refute it at one input. -/
def fnExactFindFileWrong : ChangeSpec := { name := "fnExactFindFile", fn := fun _ => fun
  | [d1, d2] => { results := [.lit (.bool false)], args := [d1, d2] }
  | _ => none }
def FnExactFindFileWrongFalsely : Prop := fnExactFindFileRow.holds Tryd.pinned (OpenSpec.ofChange fnExactFindFileWrong)

/-- 'laws.FnExactOpenBase': WHATEVER THE INPUT: true; the input reads as it did. -/
def fnExactOpenBaseSpec : ChangeSpec := { name := "fnExactOpenBase", fn := fun _ => fun
  | [d] => { results := [.lit (.bool true)], args := [d] }
  | _ => none }
def fnExactOpenBaseRow : OpenClaim := { program := "ytkekghdkbbjhpaadoor", sum := "d2ccddb038b5db6e0d095fbdcb32952ef05418bdd775cdbefda6a22ed8ce7cb1", func := "loop.example/livetyper/laws.FnExactOpenBase", spec := "fnExactOpenBase", inPlace := ["internal/bytealg.IndexByteString", "internal/bytealg.IndexString"], unfollowed := true, recurses := true, named := ["unicode/utf8.first", "unicode/utf8.acceptRanges", "internal/bytealg.MaxLen"], plainKeys := false, apart := false, laid := [("unicode/utf8.acceptRanges", laid_unicode_utf8_acceptRanges), ("unicode/utf8.first", laid_unicode_utf8_first)] }
def FnExactOpenBaseSaid : Prop := fnExactOpenBaseRow.holds Tryd.pinned (OpenSpec.ofChange fnExactOpenBaseSpec)

/-- ITS FALSE NEIGHBOUR: 'it returns false'. Refute it at one input. -/
def fnExactOpenBaseWrong : ChangeSpec := { name := "fnExactOpenBase", fn := fun _ => fun
  | [d] => { results := [.lit (.bool false)], args := [d] }
  | _ => none }
def FnExactOpenBaseWrongFalsely : Prop := fnExactOpenBaseRow.holds Tryd.pinned (OpenSpec.ofChange fnExactOpenBaseWrong)

/-- 'laws.FnExactMemoOf': WHATEVER THE INPUT: true; the input reads as it did. -/
def fnExactMemoOfSpec : ChangeSpec := { name := "fnExactMemoOf", fn := fun _ => fun
  | [d1, d2, d3, d4] => { results := [.lit (.bool true)], args := [d1, d2, d3, d4] }
  | _ => none }
def fnExactMemoOfRow : OpenClaim := { program := "ytkekghdkbbjhpaadoor", sum := "d2ccddb038b5db6e0d095fbdcb32952ef05418bdd775cdbefda6a22ed8ce7cb1", func := "loop.example/livetyper/laws.FnExactMemoOf", spec := "fnExactMemoOf", inPlace := ["internal/bytealg.IndexByteString", "internal/bytealg.IndexString"], unfollowed := true, recurses := true, named := ["unicode/utf8.first", "unicode/utf8.acceptRanges", "internal/bytealg.MaxLen"], plainKeys := false, apart := false, laid := [("unicode/utf8.acceptRanges", laid_unicode_utf8_acceptRanges), ("unicode/utf8.first", laid_unicode_utf8_first)] }
def FnExactMemoOfSaid : Prop := fnExactMemoOfRow.holds Tryd.pinned (OpenSpec.ofChange fnExactMemoOfSpec)

/-- ITS FALSE NEIGHBOUR: 'it returns false'. Refute it at one input. -/
def fnExactMemoOfWrong : ChangeSpec := { name := "fnExactMemoOf", fn := fun _ => fun
  | [d1, d2, d3, d4] => { results := [.lit (.bool false)], args := [d1, d2, d3, d4] }
  | _ => none }
def FnExactMemoOfWrongFalsely : Prop := fnExactMemoOfRow.holds Tryd.pinned (OpenSpec.ofChange fnExactMemoOfWrong)

/-- 'laws.FnReplayChanges': WHATEVER THE INPUT: true; the input reads as it did. -/
def fnReplayChangesSpec : ChangeSpec := { name := "fnReplayChanges", fn := fun _ => fun
  | [d1, d2] => { results := [.lit (.bool true)], args := [d1, d2] }
  | _ => none }
def fnReplayChangesRow : OpenClaim := { program := "ytkekghdkbbjhpaadoor", sum := "d2ccddb038b5db6e0d095fbdcb32952ef05418bdd775cdbefda6a22ed8ce7cb1", func := "loop.example/livetyper/laws.FnReplayChanges", spec := "fnReplayChanges", inPlace := ["internal/bytealg.IndexByteString", "internal/bytealg.IndexString"], unfollowed := true, recurses := true, named := ["unicode/utf8.first", "unicode/utf8.acceptRanges", "internal/bytealg.MaxLen"], plainKeys := false, apart := false, laid := [("unicode/utf8.acceptRanges", laid_unicode_utf8_acceptRanges), ("unicode/utf8.first", laid_unicode_utf8_first)] }
def FnReplayChangesSaid : Prop := fnReplayChangesRow.holds Tryd.pinned (OpenSpec.ofChange fnReplayChangesSpec)

/-- ITS FALSE NEIGHBOUR: 'it returns false'. Refute it at one input. -/
def fnReplayChangesWrong : ChangeSpec := { name := "fnReplayChanges", fn := fun _ => fun
  | [d1, d2] => { results := [.lit (.bool false)], args := [d1, d2] }
  | _ => none }
def FnReplayChangesWrongFalsely : Prop := fnReplayChangesRow.holds Tryd.pinned (OpenSpec.ofChange fnReplayChangesWrong)

/- THE SECOND FORM. 'bulk': how many values and letters a reading holds, each counted each time it is reached (what is shared counts as often as it is met; a slice's spare places count too). A statement '..UptoSaid' is the law's where the arguments, and the package variables that the reading takes, are together of bulk at most 1048576: NARROWER than '..Said'. Prove '..Said' where nothing that the law and all that it calls make is longer than what came in: it says more and counts as full. Else prove '..UptoSaid'. A law counts once. -/
mutual
def uptoBulk {H : Type} : DataW H → Nat
  | .lit (.string bytes) => bytes.length + 1
  | .lit _ => 1
  | .nil => 1
  | .ptr d => uptoBulk d + 1
  | .slice elems spare => uptoBulkAll elems + uptoBulkAll spare + 1
  | .agg parts => uptoBulkAll parts + 1
  | .iface _ d => uptoBulk d + 1
  | .map entries => uptoBulkEntries entries + 1
  | .held _ => 1
def uptoBulkAll {H : Type} : List (DataW H) → Nat
  | [] => 0
  | d :: r => uptoBulk d + uptoBulkAll r
def uptoBulkEntries {H : Type} : List (Lit × DataW H) → Nat
  | [] => 0
  | x :: r => uptoBulkEntry x + uptoBulkEntries r
def uptoBulkEntry {H : Type} : Lit × DataW H → Nat
  | (.string bytes, d) => bytes.length + uptoBulk d + 1
  | (_, d) => uptoBulk d + 1
 end
def uptoSmall : (H : Type) → List (DataW H) → Bool := fun _ ds => decide (uptoBulkAll ds ≤ 1048576)
def OpenSpec.upto (s : _root_.Go.ChangeSpec) : _root_.Go.OpenSpec := { _root_.Go.OpenSpec.ofChange s with cond := some uptoSmall }

/-- 'laws.FnExactFindFile', WHERE WHAT IT READS IS OF BULK AT MOST 1048576: true; the input reads as it did. -/
def fnExactFindFileUptoRow : OpenClaim := { program := "ytkekghdkbbjhpaadoor", sum := "d2ccddb038b5db6e0d095fbdcb32952ef05418bdd775cdbefda6a22ed8ce7cb1", func := "loop.example/livetyper/laws.FnExactFindFile", spec := "fnExactFindFile", inPlace := ["internal/bytealg.IndexByteString", "internal/bytealg.IndexString"], unfollowed := true, recurses := true, named := ["unicode/utf8.first", "unicode/utf8.acceptRanges", "internal/bytealg.MaxLen"], plainKeys := false, apart := false, laid := [("unicode/utf8.acceptRanges", laid_unicode_utf8_acceptRanges), ("unicode/utf8.first", laid_unicode_utf8_first)], narrowed := true }
def FnExactFindFileUptoSaid : Prop := fnExactFindFileUptoRow.holds Tryd.pinned (OpenSpec.upto fnExactFindFileSpec)

/-- 'laws.FnExactOpenBase', WHERE WHAT IT READS IS OF BULK AT MOST 1048576: true; the input reads as it did. -/
def fnExactOpenBaseUptoRow : OpenClaim := { program := "ytkekghdkbbjhpaadoor", sum := "d2ccddb038b5db6e0d095fbdcb32952ef05418bdd775cdbefda6a22ed8ce7cb1", func := "loop.example/livetyper/laws.FnExactOpenBase", spec := "fnExactOpenBase", inPlace := ["internal/bytealg.IndexByteString", "internal/bytealg.IndexString"], unfollowed := true, recurses := true, named := ["unicode/utf8.first", "unicode/utf8.acceptRanges", "internal/bytealg.MaxLen"], plainKeys := false, apart := false, laid := [("unicode/utf8.acceptRanges", laid_unicode_utf8_acceptRanges), ("unicode/utf8.first", laid_unicode_utf8_first)], narrowed := true }
def FnExactOpenBaseUptoSaid : Prop := fnExactOpenBaseUptoRow.holds Tryd.pinned (OpenSpec.upto fnExactOpenBaseSpec)

/-- 'laws.FnExactMemoOf', WHERE WHAT IT READS IS OF BULK AT MOST 1048576: true; the input reads as it did. -/
def fnExactMemoOfUptoRow : OpenClaim := { program := "ytkekghdkbbjhpaadoor", sum := "d2ccddb038b5db6e0d095fbdcb32952ef05418bdd775cdbefda6a22ed8ce7cb1", func := "loop.example/livetyper/laws.FnExactMemoOf", spec := "fnExactMemoOf", inPlace := ["internal/bytealg.IndexByteString", "internal/bytealg.IndexString"], unfollowed := true, recurses := true, named := ["unicode/utf8.first", "unicode/utf8.acceptRanges", "internal/bytealg.MaxLen"], plainKeys := false, apart := false, laid := [("unicode/utf8.acceptRanges", laid_unicode_utf8_acceptRanges), ("unicode/utf8.first", laid_unicode_utf8_first)], narrowed := true }
def FnExactMemoOfUptoSaid : Prop := fnExactMemoOfUptoRow.holds Tryd.pinned (OpenSpec.upto fnExactMemoOfSpec)

/-- 'laws.FnReplayChanges', WHERE WHAT IT READS IS OF BULK AT MOST 1048576: true; the input reads as it did. -/
def fnReplayChangesUptoRow : OpenClaim := { program := "ytkekghdkbbjhpaadoor", sum := "d2ccddb038b5db6e0d095fbdcb32952ef05418bdd775cdbefda6a22ed8ce7cb1", func := "loop.example/livetyper/laws.FnReplayChanges", spec := "fnReplayChanges", inPlace := ["internal/bytealg.IndexByteString", "internal/bytealg.IndexString"], unfollowed := true, recurses := true, named := ["unicode/utf8.first", "unicode/utf8.acceptRanges", "internal/bytealg.MaxLen"], plainKeys := false, apart := false, laid := [("unicode/utf8.acceptRanges", laid_unicode_utf8_acceptRanges), ("unicode/utf8.first", laid_unicode_utf8_first)], narrowed := true }
def FnReplayChangesUptoSaid : Prop := fnReplayChangesUptoRow.holds Tryd.pinned (OpenSpec.upto fnReplayChangesSpec)

end Rows
end Go.Proofs.YtkekghdkbbjhpaaDoor
