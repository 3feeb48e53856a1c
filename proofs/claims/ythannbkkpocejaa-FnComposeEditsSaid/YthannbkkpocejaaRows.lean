/-
  No cell of these rows narrows 'for every input' (looked for: loops, veiled, ifaces, maps, wideKeys, modest, calm, conditions, laid).
  DERIVED. THE GIVEN ROWS OF THIS SEAT. 8 by the template 'for every input the law returns true; each argument reads behind the call as it read before'; 0 by the template 'total and deterministic' (their statements: YthannbkkpocejaaTotals.lean).
  GIVEN WITH THE SEED: the statements are not yours to turn. If you find one false, say at which input.
  Laid BY PROGRAM, IN A SANDBOX (cutbox-rows.mjs): the forced cells as the released guide's own fill.sh prints them over the translation 178a49bf073b0507… (all of the seat's roots in one cut). By AI agents, Wed Nov 11 2026. No macro, syntax, notation, axiom, sorry.
-/
import Derived.Test.YthannbkkpocejaaChecked
import GoSem.Claim
import GoSem.ClaimJoined
import GoSem.ClaimMapViews
import Derived.JoinedTies
import Derived.KernelRfl
namespace Go.Proofs.Ythannbkkpocejaa
/- THE CELL 'sum', in the pinned program and in every row, IS THE sha256 OF THE DUMP (.gsa) THAT YthannbkkpocejaaProg.lean LOADS. Nothing in Lean hashes anything: it is a label: what it is worth is what the hold of that sum in a sandbox is worth. -/
noncomputable def Try.pinned : Pinned := { name := "ythannbkkpocejaa", sum := "178a49bf073b0507fb23ab45cf6aa30bd1342a7c9bf4925e971610a566244518", checked := Try.checked }
namespace Rows
def none {H : Type} : Left H := { results := [], args := [] }

/-- 'laws.FnApplyEdit': WHATEVER THE INPUT: true; the input reads as it did. -/
def fnApplyEditSpec : ChangeSpec := { name := "fnApplyEdit", fn := fun _ => fun
  | [d] => { results := [.lit (.bool true)], args := [d] }
  | _ => none }
def fnApplyEditRow : OpenClaim := { program := "ythannbkkpocejaa", sum := "178a49bf073b0507fb23ab45cf6aa30bd1342a7c9bf4925e971610a566244518", func := "loop.example/livetyper/laws.FnApplyEdit", spec := "fnApplyEdit", apart := false }
def FnApplyEditSaid : Prop := fnApplyEditRow.holds Try.pinned (OpenSpec.ofChange fnApplyEditSpec)

/-- ITS FALSE NEIGHBOUR: 'it returns false'. Refute it at one input. -/
def fnApplyEditWrong : ChangeSpec := { name := "fnApplyEdit", fn := fun _ => fun
  | [d] => { results := [.lit (.bool false)], args := [d] }
  | _ => none }
def FnApplyEditWrongFalsely : Prop := fnApplyEditRow.holds Try.pinned (OpenSpec.ofChange fnApplyEditWrong)

/-- 'laws.FnEditLength': WHATEVER THE INPUT: true; the input reads as it did. -/
def fnEditLengthSpec : ChangeSpec := { name := "fnEditLength", fn := fun _ => fun
  | [d] => { results := [.lit (.bool true)], args := [d] }
  | _ => none }
def fnEditLengthRow : OpenClaim := { program := "ythannbkkpocejaa", sum := "178a49bf073b0507fb23ab45cf6aa30bd1342a7c9bf4925e971610a566244518", func := "loop.example/livetyper/laws.FnEditLength", spec := "fnEditLength", apart := false }
def FnEditLengthSaid : Prop := fnEditLengthRow.holds Try.pinned (OpenSpec.ofChange fnEditLengthSpec)

/-- ITS FALSE NEIGHBOUR: 'it returns false'. Refute it at one input. -/
def fnEditLengthWrong : ChangeSpec := { name := "fnEditLength", fn := fun _ => fun
  | [d] => { results := [.lit (.bool false)], args := [d] }
  | _ => none }
def FnEditLengthWrongFalsely : Prop := fnEditLengthRow.holds Try.pinned (OpenSpec.ofChange fnEditLengthWrong)

/-- 'laws.FnDiffEdit': WHATEVER THE INPUT: true; the input reads as it did. -/
def fnDiffEditSpec : ChangeSpec := { name := "fnDiffEdit", fn := fun _ => fun
  | [d] => { results := [.lit (.bool true)], args := [d] }
  | _ => none }
def fnDiffEditRow : OpenClaim := { program := "ythannbkkpocejaa", sum := "178a49bf073b0507fb23ab45cf6aa30bd1342a7c9bf4925e971610a566244518", func := "loop.example/livetyper/laws.FnDiffEdit", spec := "fnDiffEdit", apart := false }
def FnDiffEditSaid : Prop := fnDiffEditRow.holds Try.pinned (OpenSpec.ofChange fnDiffEditSpec)

/-- ITS FALSE NEIGHBOUR: 'it returns false'. Refute it at one input. -/
def fnDiffEditWrong : ChangeSpec := { name := "fnDiffEdit", fn := fun _ => fun
  | [d] => { results := [.lit (.bool false)], args := [d] }
  | _ => none }
def FnDiffEditWrongFalsely : Prop := fnDiffEditRow.holds Try.pinned (OpenSpec.ofChange fnDiffEditWrong)

/-- 'laws.FnComposeEdits': WHATEVER THE INPUT: true; the input reads as it did. -/
def fnComposeEditsSpec : ChangeSpec := { name := "fnComposeEdits", fn := fun _ => fun
  | [d] => { results := [.lit (.bool true)], args := [d] }
  | _ => none }
def fnComposeEditsRow : OpenClaim := { program := "ythannbkkpocejaa", sum := "178a49bf073b0507fb23ab45cf6aa30bd1342a7c9bf4925e971610a566244518", func := "loop.example/livetyper/laws.FnComposeEdits", spec := "fnComposeEdits", apart := false }
def FnComposeEditsSaid : Prop := fnComposeEditsRow.holds Try.pinned (OpenSpec.ofChange fnComposeEditsSpec)

/-- ITS FALSE NEIGHBOUR: 'it returns false'. Refute it at one input. -/
def fnComposeEditsWrong : ChangeSpec := { name := "fnComposeEdits", fn := fun _ => fun
  | [d] => { results := [.lit (.bool false)], args := [d] }
  | _ => none }
def FnComposeEditsWrongFalsely : Prop := fnComposeEditsRow.holds Try.pinned (OpenSpec.ofChange fnComposeEditsWrong)

/-- 'laws.FnMoveOffset': WHATEVER THE INPUT: true; the input reads as it did. -/
def fnMoveOffsetSpec : ChangeSpec := { name := "fnMoveOffset", fn := fun _ => fun
  | [d1, d2] => { results := [.lit (.bool true)], args := [d1, d2] }
  | _ => none }
def fnMoveOffsetRow : OpenClaim := { program := "ythannbkkpocejaa", sum := "178a49bf073b0507fb23ab45cf6aa30bd1342a7c9bf4925e971610a566244518", func := "loop.example/livetyper/laws.FnMoveOffset", spec := "fnMoveOffset", apart := false }
def FnMoveOffsetSaid : Prop := fnMoveOffsetRow.holds Try.pinned (OpenSpec.ofChange fnMoveOffsetSpec)

/-- ITS FALSE NEIGHBOUR: 'it returns false'. Refute it at one input. -/
def fnMoveOffsetWrong : ChangeSpec := { name := "fnMoveOffset", fn := fun _ => fun
  | [d1, d2] => { results := [.lit (.bool false)], args := [d1, d2] }
  | _ => none }
def FnMoveOffsetWrongFalsely : Prop := fnMoveOffsetRow.holds Try.pinned (OpenSpec.ofChange fnMoveOffsetWrong)

/-- 'laws.FnEmptyEdit': WHATEVER THE INPUT: true; the input reads as it did. -/
def fnEmptyEditSpec : ChangeSpec := { name := "fnEmptyEdit", fn := fun _ => fun
  | [d1, d2] => { results := [.lit (.bool true)], args := [d1, d2] }
  | _ => none }
def fnEmptyEditRow : OpenClaim := { program := "ythannbkkpocejaa", sum := "178a49bf073b0507fb23ab45cf6aa30bd1342a7c9bf4925e971610a566244518", func := "loop.example/livetyper/laws.FnEmptyEdit", spec := "fnEmptyEdit", apart := false }
def FnEmptyEditSaid : Prop := fnEmptyEditRow.holds Try.pinned (OpenSpec.ofChange fnEmptyEditSpec)

/-- ITS FALSE NEIGHBOUR: 'it returns false'. Refute it at one input. -/
def fnEmptyEditWrong : ChangeSpec := { name := "fnEmptyEdit", fn := fun _ => fun
  | [d1, d2] => { results := [.lit (.bool false)], args := [d1, d2] }
  | _ => none }
def FnEmptyEditWrongFalsely : Prop := fnEmptyEditRow.holds Try.pinned (OpenSpec.ofChange fnEmptyEditWrong)

/-- 'laws.FnDiffInverse': WHATEVER THE INPUT: true; the input reads as it did. -/
def fnDiffInverseSpec : ChangeSpec := { name := "fnDiffInverse", fn := fun _ => fun
  | [d] => { results := [.lit (.bool true)], args := [d] }
  | _ => none }
def fnDiffInverseRow : OpenClaim := { program := "ythannbkkpocejaa", sum := "178a49bf073b0507fb23ab45cf6aa30bd1342a7c9bf4925e971610a566244518", func := "loop.example/livetyper/laws.FnDiffInverse", spec := "fnDiffInverse", apart := false }
def FnDiffInverseSaid : Prop := fnDiffInverseRow.holds Try.pinned (OpenSpec.ofChange fnDiffInverseSpec)

/-- ITS FALSE NEIGHBOUR: 'it returns false'. Refute it at one input. -/
def fnDiffInverseWrong : ChangeSpec := { name := "fnDiffInverse", fn := fun _ => fun
  | [d] => { results := [.lit (.bool false)], args := [d] }
  | _ => none }
def FnDiffInverseWrongFalsely : Prop := fnDiffInverseRow.holds Try.pinned (OpenSpec.ofChange fnDiffInverseWrong)

/-- 'laws.FnExactTextValid': WHATEVER THE INPUT: true; the input reads as it did. -/
def fnExactTextValidSpec : ChangeSpec := { name := "fnExactTextValid", fn := fun _ => fun
  | [d] => { results := [.lit (.bool true)], args := [d] }
  | _ => none }
def fnExactTextValidRow : OpenClaim := { program := "ythannbkkpocejaa", sum := "178a49bf073b0507fb23ab45cf6aa30bd1342a7c9bf4925e971610a566244518", func := "loop.example/livetyper/laws.FnExactTextValid", spec := "fnExactTextValid", apart := false }
def FnExactTextValidSaid : Prop := fnExactTextValidRow.holds Try.pinned (OpenSpec.ofChange fnExactTextValidSpec)

/-- ITS FALSE NEIGHBOUR: 'it returns false'. Refute it at one input. -/
def fnExactTextValidWrong : ChangeSpec := { name := "fnExactTextValid", fn := fun _ => fun
  | [d] => { results := [.lit (.bool false)], args := [d] }
  | _ => none }
def FnExactTextValidWrongFalsely : Prop := fnExactTextValidRow.holds Try.pinned (OpenSpec.ofChange fnExactTextValidWrong)

/- THE SECOND FORM. 'bulk': how many values and letters a reading holds, each counted each time it is reached (what is shared counts as often as it is met; a slice's spare places count too). A statement '..UptoSaid' is the law's where the arguments, and the package variables that the reading takes, are together of bulk at most 1048576: NARROWER than '..Said'. Prove '..Said' where nothing that the law and all that it calls make is longer than what came in: it says more and counts as full. Else prove '..UptoSaid'. A law counts once. -/
mutual
def uptoBulk {H : Type} : DataW H → Nat
  | .lit (.string bytes) => bytes.length + 1
  | .lit _ => 1
  | .nil => 1
  | .ptr d => uptoBulk d + 1
  | .slice elems spare => uptoBulkAll elems + uptoBulkAll spare + 1
  | .agg parts => uptoBulkAll parts + 1
  | .iface _ d => uptoBulk d + 1
  | .map entries => uptoBulkEntries entries + 1
  | .held _ => 1
def uptoBulkAll {H : Type} : List (DataW H) → Nat
  | [] => 0
  | d :: r => uptoBulk d + uptoBulkAll r
def uptoBulkEntries {H : Type} : List (Lit × DataW H) → Nat
  | [] => 0
  | x :: r => uptoBulkEntry x + uptoBulkEntries r
def uptoBulkEntry {H : Type} : Lit × DataW H → Nat
  | (.string bytes, d) => bytes.length + uptoBulk d + 1
  | (_, d) => uptoBulk d + 1
 end
def uptoSmall : (H : Type) → List (DataW H) → Bool := fun _ ds => decide (uptoBulkAll ds ≤ 1048576)
def OpenSpec.upto (s : _root_.Go.ChangeSpec) : _root_.Go.OpenSpec := { _root_.Go.OpenSpec.ofChange s with cond := some uptoSmall }

/-- 'laws.FnApplyEdit', WHERE WHAT IT READS IS OF BULK AT MOST 1048576: true; the input reads as it did. -/
def fnApplyEditUptoRow : OpenClaim := { program := "ythannbkkpocejaa", sum := "178a49bf073b0507fb23ab45cf6aa30bd1342a7c9bf4925e971610a566244518", func := "loop.example/livetyper/laws.FnApplyEdit", spec := "fnApplyEdit", apart := false, narrowed := true }
def FnApplyEditUptoSaid : Prop := fnApplyEditUptoRow.holds Try.pinned (OpenSpec.upto fnApplyEditSpec)

/-- 'laws.FnEditLength', WHERE WHAT IT READS IS OF BULK AT MOST 1048576: true; the input reads as it did. -/
def fnEditLengthUptoRow : OpenClaim := { program := "ythannbkkpocejaa", sum := "178a49bf073b0507fb23ab45cf6aa30bd1342a7c9bf4925e971610a566244518", func := "loop.example/livetyper/laws.FnEditLength", spec := "fnEditLength", apart := false, narrowed := true }
def FnEditLengthUptoSaid : Prop := fnEditLengthUptoRow.holds Try.pinned (OpenSpec.upto fnEditLengthSpec)

/-- 'laws.FnDiffEdit', WHERE WHAT IT READS IS OF BULK AT MOST 1048576: true; the input reads as it did. -/
def fnDiffEditUptoRow : OpenClaim := { program := "ythannbkkpocejaa", sum := "178a49bf073b0507fb23ab45cf6aa30bd1342a7c9bf4925e971610a566244518", func := "loop.example/livetyper/laws.FnDiffEdit", spec := "fnDiffEdit", apart := false, narrowed := true }
def FnDiffEditUptoSaid : Prop := fnDiffEditUptoRow.holds Try.pinned (OpenSpec.upto fnDiffEditSpec)

/-- 'laws.FnComposeEdits', WHERE WHAT IT READS IS OF BULK AT MOST 1048576: true; the input reads as it did. -/
def fnComposeEditsUptoRow : OpenClaim := { program := "ythannbkkpocejaa", sum := "178a49bf073b0507fb23ab45cf6aa30bd1342a7c9bf4925e971610a566244518", func := "loop.example/livetyper/laws.FnComposeEdits", spec := "fnComposeEdits", apart := false, narrowed := true }
def FnComposeEditsUptoSaid : Prop := fnComposeEditsUptoRow.holds Try.pinned (OpenSpec.upto fnComposeEditsSpec)

/-- 'laws.FnMoveOffset', WHERE WHAT IT READS IS OF BULK AT MOST 1048576: true; the input reads as it did. -/
def fnMoveOffsetUptoRow : OpenClaim := { program := "ythannbkkpocejaa", sum := "178a49bf073b0507fb23ab45cf6aa30bd1342a7c9bf4925e971610a566244518", func := "loop.example/livetyper/laws.FnMoveOffset", spec := "fnMoveOffset", apart := false, narrowed := true }
def FnMoveOffsetUptoSaid : Prop := fnMoveOffsetUptoRow.holds Try.pinned (OpenSpec.upto fnMoveOffsetSpec)

/-- 'laws.FnEmptyEdit', WHERE WHAT IT READS IS OF BULK AT MOST 1048576: true; the input reads as it did. -/
def fnEmptyEditUptoRow : OpenClaim := { program := "ythannbkkpocejaa", sum := "178a49bf073b0507fb23ab45cf6aa30bd1342a7c9bf4925e971610a566244518", func := "loop.example/livetyper/laws.FnEmptyEdit", spec := "fnEmptyEdit", apart := false, narrowed := true }
def FnEmptyEditUptoSaid : Prop := fnEmptyEditUptoRow.holds Try.pinned (OpenSpec.upto fnEmptyEditSpec)

/-- 'laws.FnDiffInverse', WHERE WHAT IT READS IS OF BULK AT MOST 1048576: true; the input reads as it did. -/
def fnDiffInverseUptoRow : OpenClaim := { program := "ythannbkkpocejaa", sum := "178a49bf073b0507fb23ab45cf6aa30bd1342a7c9bf4925e971610a566244518", func := "loop.example/livetyper/laws.FnDiffInverse", spec := "fnDiffInverse", apart := false, narrowed := true }
def FnDiffInverseUptoSaid : Prop := fnDiffInverseUptoRow.holds Try.pinned (OpenSpec.upto fnDiffInverseSpec)

/-- 'laws.FnExactTextValid', WHERE WHAT IT READS IS OF BULK AT MOST 1048576: true; the input reads as it did. -/
def fnExactTextValidUptoRow : OpenClaim := { program := "ythannbkkpocejaa", sum := "178a49bf073b0507fb23ab45cf6aa30bd1342a7c9bf4925e971610a566244518", func := "loop.example/livetyper/laws.FnExactTextValid", spec := "fnExactTextValid", apart := false, narrowed := true }
def FnExactTextValidUptoSaid : Prop := fnExactTextValidUptoRow.holds Try.pinned (OpenSpec.upto fnExactTextValidSpec)

end Rows
end Go.Proofs.Ythannbkkpocejaa
