/-
  No cell of these rows narrows 'for every input' (looked for: loops, veiled, ifaces, maps, wideKeys, modest, calm, conditions, laid).
  DERIVED. THE GIVEN ROWS OF THIS SEAT. 14 by the template 'for every input the law returns true; each argument reads behind the call as it read before'; 0 by the template 'total and deterministic' (their statements: YtdicfjgdceacpaaTotals.lean).
  GIVEN WITH THE SEED: the statements are not yours to turn. If you find one false, say at which input.
  Laid BY PROGRAM, IN A SANDBOX (cutbox-rows.mjs): the forced cells as the released guide's own fill.sh prints them over the translation a3a247f98f591b20… (all of the seat's roots in one cut). By AI agents, Wed Nov 11 2026. No macro, syntax, notation, axiom, sorry.
-/
import Derived.Test.YtdicfjgdceacpaaChecked
import GoSem.Claim
import GoSem.ClaimJoined
import GoSem.ClaimMapViews
import Derived.JoinedTies
import Derived.KernelRfl
namespace Go.Proofs.Ytdicfjgdceacpaa
/- THE CELL 'sum', in the pinned program and in every row, IS THE sha256 OF THE DUMP (.gsa) THAT YtdicfjgdceacpaaProg.lean LOADS. Nothing in Lean hashes anything: it is a label: what it is worth is what the hold of that sum in a sandbox is worth. -/
noncomputable def Try.pinned : Pinned := { name := "ytdicfjgdceacpaa", sum := "a3a247f98f591b20643c0754c9a2a7c5ce30f2918f98e233c8ad3de60af4696a", checked := Try.checked }
namespace Rows
def none {H : Type} : Left H := { results := [], args := [] }

/-- 'laws.FnTransformEdit': WHATEVER THE INPUT: true; the input reads as it did. -/
def fnTransformEditSpec : ChangeSpec := { name := "fnTransformEdit", fn := fun _ => fun
  | [d] => { results := [.lit (.bool true)], args := [d] }
  | _ => none }
def fnTransformEditRow : OpenClaim := { program := "ytdicfjgdceacpaa", sum := "a3a247f98f591b20643c0754c9a2a7c5ce30f2918f98e233c8ad3de60af4696a", func := "loop.example/livetyper/laws.FnTransformEdit", spec := "fnTransformEdit", apart := false }
def FnTransformEditSaid : Prop := fnTransformEditRow.holds Try.pinned (OpenSpec.ofChange fnTransformEditSpec)

/-- ITS FALSE NEIGHBOUR: 'it returns false'. Refute it at one input. -/
def fnTransformEditWrong : ChangeSpec := { name := "fnTransformEdit", fn := fun _ => fun
  | [d] => { results := [.lit (.bool false)], args := [d] }
  | _ => none }
def FnTransformEditWrongFalsely : Prop := fnTransformEditRow.holds Try.pinned (OpenSpec.ofChange fnTransformEditWrong)

/-- 'laws.FnEditsClash': WHATEVER THE INPUT: true; the input reads as it did. -/
def fnEditsClashSpec : ChangeSpec := { name := "fnEditsClash", fn := fun _ => fun
  | [d] => { results := [.lit (.bool true)], args := [d] }
  | _ => none }
def fnEditsClashRow : OpenClaim := { program := "ytdicfjgdceacpaa", sum := "a3a247f98f591b20643c0754c9a2a7c5ce30f2918f98e233c8ad3de60af4696a", func := "loop.example/livetyper/laws.FnEditsClash", spec := "fnEditsClash", apart := false }
def FnEditsClashSaid : Prop := fnEditsClashRow.holds Try.pinned (OpenSpec.ofChange fnEditsClashSpec)

/-- ITS FALSE NEIGHBOUR: 'it returns false'. Refute it at one input. -/
def fnEditsClashWrong : ChangeSpec := { name := "fnEditsClash", fn := fun _ => fun
  | [d] => { results := [.lit (.bool false)], args := [d] }
  | _ => none }
def FnEditsClashWrongFalsely : Prop := fnEditsClashRow.holds Try.pinned (OpenSpec.ofChange fnEditsClashWrong)

/-- 'laws.FnMergeEdits': WHATEVER THE INPUT: true; the input reads as it did. -/
def fnMergeEditsSpec : ChangeSpec := { name := "fnMergeEdits", fn := fun _ => fun
  | [d] => { results := [.lit (.bool true)], args := [d] }
  | _ => none }
def fnMergeEditsRow : OpenClaim := { program := "ytdicfjgdceacpaa", sum := "a3a247f98f591b20643c0754c9a2a7c5ce30f2918f98e233c8ad3de60af4696a", func := "loop.example/livetyper/laws.FnMergeEdits", spec := "fnMergeEdits", apart := false }
def FnMergeEditsSaid : Prop := fnMergeEditsRow.holds Try.pinned (OpenSpec.ofChange fnMergeEditsSpec)

/-- ITS FALSE NEIGHBOUR: 'it returns false'. Refute it at one input. -/
def fnMergeEditsWrong : ChangeSpec := { name := "fnMergeEdits", fn := fun _ => fun
  | [d] => { results := [.lit (.bool false)], args := [d] }
  | _ => none }
def FnMergeEditsWrongFalsely : Prop := fnMergeEditsRow.holds Try.pinned (OpenSpec.ofChange fnMergeEditsWrong)

/-- 'laws.FnApplyAll': WHATEVER THE INPUT: true; the input reads as it did. -/
def fnApplyAllSpec : ChangeSpec := { name := "fnApplyAll", fn := fun _ => fun
  | [d] => { results := [.lit (.bool true)], args := [d] }
  | _ => none }
def fnApplyAllRow : OpenClaim := { program := "ytdicfjgdceacpaa", sum := "a3a247f98f591b20643c0754c9a2a7c5ce30f2918f98e233c8ad3de60af4696a", func := "loop.example/livetyper/laws.FnApplyAll", spec := "fnApplyAll", unfollowed := true, recurses := true, apart := false }
def FnApplyAllSaid : Prop := fnApplyAllRow.holds Try.pinned (OpenSpec.ofChange fnApplyAllSpec)

/-- ITS FALSE NEIGHBOUR: 'it returns false'. Refute it at one input. -/
def fnApplyAllWrong : ChangeSpec := { name := "fnApplyAll", fn := fun _ => fun
  | [d] => { results := [.lit (.bool false)], args := [d] }
  | _ => none }
def FnApplyAllWrongFalsely : Prop := fnApplyAllRow.holds Try.pinned (OpenSpec.ofChange fnApplyAllWrong)

/-- 'laws.FnEditsInOrder': WHATEVER THE INPUT: true; the input reads as it did. -/
def fnEditsInOrderSpec : ChangeSpec := { name := "fnEditsInOrder", fn := fun _ => fun
  | [d] => { results := [.lit (.bool true)], args := [d] }
  | _ => none }
def fnEditsInOrderRow : OpenClaim := { program := "ytdicfjgdceacpaa", sum := "a3a247f98f591b20643c0754c9a2a7c5ce30f2918f98e233c8ad3de60af4696a", func := "loop.example/livetyper/laws.FnEditsInOrder", spec := "fnEditsInOrder", apart := false }
def FnEditsInOrderSaid : Prop := fnEditsInOrderRow.holds Try.pinned (OpenSpec.ofChange fnEditsInOrderSpec)

/-- ITS FALSE NEIGHBOUR: 'it returns false'. Refute it at one input. -/
def fnEditsInOrderWrong : ChangeSpec := { name := "fnEditsInOrder", fn := fun _ => fun
  | [d] => { results := [.lit (.bool false)], args := [d] }
  | _ => none }
def FnEditsInOrderWrongFalsely : Prop := fnEditsInOrderRow.holds Try.pinned (OpenSpec.ofChange fnEditsInOrderWrong)

/-- 'laws.FnTransformNothing': WHATEVER THE INPUT: true; the input reads as it did. -/
def fnTransformNothingSpec : ChangeSpec := { name := "fnTransformNothing", fn := fun _ => fun
  | [d1, d2] => { results := [.lit (.bool true)], args := [d1, d2] }
  | _ => none }
def fnTransformNothingRow : OpenClaim := { program := "ytdicfjgdceacpaa", sum := "a3a247f98f591b20643c0754c9a2a7c5ce30f2918f98e233c8ad3de60af4696a", func := "loop.example/livetyper/laws.FnTransformNothing", spec := "fnTransformNothing", apart := false }
def FnTransformNothingSaid : Prop := fnTransformNothingRow.holds Try.pinned (OpenSpec.ofChange fnTransformNothingSpec)

/-- ITS FALSE NEIGHBOUR: 'it returns false'. Refute it at one input. -/
def fnTransformNothingWrong : ChangeSpec := { name := "fnTransformNothing", fn := fun _ => fun
  | [d1, d2] => { results := [.lit (.bool false)], args := [d1, d2] }
  | _ => none }
def FnTransformNothingWrongFalsely : Prop := fnTransformNothingRow.holds Try.pinned (OpenSpec.ofChange fnTransformNothingWrong)

/-- 'laws.FnApplyOne': WHATEVER THE INPUT: true; the input reads as it did. -/
def fnApplyOneSpec : ChangeSpec := { name := "fnApplyOne", fn := fun _ => fun
  | [d] => { results := [.lit (.bool true)], args := [d] }
  | _ => none }
def fnApplyOneRow : OpenClaim := { program := "ytdicfjgdceacpaa", sum := "a3a247f98f591b20643c0754c9a2a7c5ce30f2918f98e233c8ad3de60af4696a", func := "loop.example/livetyper/laws.FnApplyOne", spec := "fnApplyOne", unfollowed := true, recurses := true, apart := false }
def FnApplyOneSaid : Prop := fnApplyOneRow.holds Try.pinned (OpenSpec.ofChange fnApplyOneSpec)

/-- ITS FALSE NEIGHBOUR: 'it returns false'. Refute it at one input. -/
def fnApplyOneWrong : ChangeSpec := { name := "fnApplyOne", fn := fun _ => fun
  | [d] => { results := [.lit (.bool false)], args := [d] }
  | _ => none }
def FnApplyOneWrongFalsely : Prop := fnApplyOneRow.holds Try.pinned (OpenSpec.ofChange fnApplyOneWrong)

/-- 'laws.FnMergeUndo': WHATEVER THE INPUT: true; the input reads as it did. -/
def fnMergeUndoSpec : ChangeSpec := { name := "fnMergeUndo", fn := fun _ => fun
  | [d] => { results := [.lit (.bool true)], args := [d] }
  | _ => none }
def fnMergeUndoRow : OpenClaim := { program := "ytdicfjgdceacpaa", sum := "a3a247f98f591b20643c0754c9a2a7c5ce30f2918f98e233c8ad3de60af4696a", func := "loop.example/livetyper/laws.FnMergeUndo", spec := "fnMergeUndo", apart := false }
def FnMergeUndoSaid : Prop := fnMergeUndoRow.holds Try.pinned (OpenSpec.ofChange fnMergeUndoSpec)

/-- ITS FALSE NEIGHBOUR: 'it returns false'. Refute it at one input. -/
def fnMergeUndoWrong : ChangeSpec := { name := "fnMergeUndo", fn := fun _ => fun
  | [d] => { results := [.lit (.bool false)], args := [d] }
  | _ => none }
def FnMergeUndoWrongFalsely : Prop := fnMergeUndoRow.holds Try.pinned (OpenSpec.ofChange fnMergeUndoWrong)

/-- 'laws.FnClashParts': WHATEVER THE INPUT: true; the input reads as it did. -/
def fnClashPartsSpec : ChangeSpec := { name := "fnClashParts", fn := fun _ => fun
  | [d] => { results := [.lit (.bool true)], args := [d] }
  | _ => none }
def fnClashPartsRow : OpenClaim := { program := "ytdicfjgdceacpaa", sum := "a3a247f98f591b20643c0754c9a2a7c5ce30f2918f98e233c8ad3de60af4696a", func := "loop.example/livetyper/laws.FnClashParts", spec := "fnClashParts", apart := false }
def FnClashPartsSaid : Prop := fnClashPartsRow.holds Try.pinned (OpenSpec.ofChange fnClashPartsSpec)

/-- ITS FALSE NEIGHBOUR: 'it returns false'. Refute it at one input. -/
def fnClashPartsWrong : ChangeSpec := { name := "fnClashParts", fn := fun _ => fun
  | [d] => { results := [.lit (.bool false)], args := [d] }
  | _ => none }
def FnClashPartsWrongFalsely : Prop := fnClashPartsRow.holds Try.pinned (OpenSpec.ofChange fnClashPartsWrong)

/-- 'laws.FnExactTransformEdit': WHATEVER THE INPUT: true; the input reads as it did. -/
def fnExactTransformEditSpec : ChangeSpec := { name := "fnExactTransformEdit", fn := fun _ => fun
  | [d1, d2, d3, d4] => { results := [.lit (.bool true)], args := [d1, d2, d3, d4] }
  | _ => none }
def fnExactTransformEditRow : OpenClaim := { program := "ytdicfjgdceacpaa", sum := "a3a247f98f591b20643c0754c9a2a7c5ce30f2918f98e233c8ad3de60af4696a", func := "loop.example/livetyper/laws.FnExactTransformEdit", spec := "fnExactTransformEdit", apart := false }
def FnExactTransformEditSaid : Prop := fnExactTransformEditRow.holds Try.pinned (OpenSpec.ofChange fnExactTransformEditSpec)

/-- ITS FALSE NEIGHBOUR: 'it returns false'. Refute it at one input. -/
def fnExactTransformEditWrong : ChangeSpec := { name := "fnExactTransformEdit", fn := fun _ => fun
  | [d1, d2, d3, d4] => { results := [.lit (.bool false)], args := [d1, d2, d3, d4] }
  | _ => none }
def FnExactTransformEditWrongFalsely : Prop := fnExactTransformEditRow.holds Try.pinned (OpenSpec.ofChange fnExactTransformEditWrong)

/-- 'laws.FnExactEditsClash': WHATEVER THE INPUT: true; the input reads as it did. -/
def fnExactEditsClashSpec : ChangeSpec := { name := "fnExactEditsClash", fn := fun _ => fun
  | [d1, d2, d3] => { results := [.lit (.bool true)], args := [d1, d2, d3] }
  | _ => none }
def fnExactEditsClashRow : OpenClaim := { program := "ytdicfjgdceacpaa", sum := "a3a247f98f591b20643c0754c9a2a7c5ce30f2918f98e233c8ad3de60af4696a", func := "loop.example/livetyper/laws.FnExactEditsClash", spec := "fnExactEditsClash", apart := false }
def FnExactEditsClashSaid : Prop := fnExactEditsClashRow.holds Try.pinned (OpenSpec.ofChange fnExactEditsClashSpec)

/-- ITS FALSE NEIGHBOUR: 'it returns false'. Refute it at one input. -/
def fnExactEditsClashWrong : ChangeSpec := { name := "fnExactEditsClash", fn := fun _ => fun
  | [d1, d2, d3] => { results := [.lit (.bool false)], args := [d1, d2, d3] }
  | _ => none }
def FnExactEditsClashWrongFalsely : Prop := fnExactEditsClashRow.holds Try.pinned (OpenSpec.ofChange fnExactEditsClashWrong)

/-- 'laws.FnExactMergeEdits': WHATEVER THE INPUT: true; the input reads as it did. -/
def fnExactMergeEditsSpec : ChangeSpec := { name := "fnExactMergeEdits", fn := fun _ => fun
  | [d1, d2, d3] => { results := [.lit (.bool true)], args := [d1, d2, d3] }
  | _ => none }
def fnExactMergeEditsRow : OpenClaim := { program := "ytdicfjgdceacpaa", sum := "a3a247f98f591b20643c0754c9a2a7c5ce30f2918f98e233c8ad3de60af4696a", func := "loop.example/livetyper/laws.FnExactMergeEdits", spec := "fnExactMergeEdits", apart := false }
def FnExactMergeEditsSaid : Prop := fnExactMergeEditsRow.holds Try.pinned (OpenSpec.ofChange fnExactMergeEditsSpec)

/-- ITS FALSE NEIGHBOUR: 'it returns false'. Refute it at one input. -/
def fnExactMergeEditsWrong : ChangeSpec := { name := "fnExactMergeEdits", fn := fun _ => fun
  | [d1, d2, d3] => { results := [.lit (.bool false)], args := [d1, d2, d3] }
  | _ => none }
def FnExactMergeEditsWrongFalsely : Prop := fnExactMergeEditsRow.holds Try.pinned (OpenSpec.ofChange fnExactMergeEditsWrong)

/-- 'laws.FnExactEditsInOrder': WHATEVER THE INPUT: true; the input reads as it did. -/
def fnExactEditsInOrderSpec : ChangeSpec := { name := "fnExactEditsInOrder", fn := fun _ => fun
  | [d1, d2] => { results := [.lit (.bool true)], args := [d1, d2] }
  | _ => none }
def fnExactEditsInOrderRow : OpenClaim := { program := "ytdicfjgdceacpaa", sum := "a3a247f98f591b20643c0754c9a2a7c5ce30f2918f98e233c8ad3de60af4696a", func := "loop.example/livetyper/laws.FnExactEditsInOrder", spec := "fnExactEditsInOrder", apart := false }
def FnExactEditsInOrderSaid : Prop := fnExactEditsInOrderRow.holds Try.pinned (OpenSpec.ofChange fnExactEditsInOrderSpec)

/-- ITS FALSE NEIGHBOUR: 'it returns false'. Refute it at one input. -/
def fnExactEditsInOrderWrong : ChangeSpec := { name := "fnExactEditsInOrder", fn := fun _ => fun
  | [d1, d2] => { results := [.lit (.bool false)], args := [d1, d2] }
  | _ => none }
def FnExactEditsInOrderWrongFalsely : Prop := fnExactEditsInOrderRow.holds Try.pinned (OpenSpec.ofChange fnExactEditsInOrderWrong)

/-- 'laws.FnExactApplyAll': WHATEVER THE INPUT: true; the input reads as it did. -/
def fnExactApplyAllSpec : ChangeSpec := { name := "fnExactApplyAll", fn := fun _ => fun
  | [d1, d2] => { results := [.lit (.bool true)], args := [d1, d2] }
  | _ => none }
def fnExactApplyAllRow : OpenClaim := { program := "ytdicfjgdceacpaa", sum := "a3a247f98f591b20643c0754c9a2a7c5ce30f2918f98e233c8ad3de60af4696a", func := "loop.example/livetyper/laws.FnExactApplyAll", spec := "fnExactApplyAll", unfollowed := true, recurses := true, apart := false }
def FnExactApplyAllSaid : Prop := fnExactApplyAllRow.holds Try.pinned (OpenSpec.ofChange fnExactApplyAllSpec)

/-- ITS FALSE NEIGHBOUR: 'it returns false'. Refute it at one input. -/
def fnExactApplyAllWrong : ChangeSpec := { name := "fnExactApplyAll", fn := fun _ => fun
  | [d1, d2] => { results := [.lit (.bool false)], args := [d1, d2] }
  | _ => none }
def FnExactApplyAllWrongFalsely : Prop := fnExactApplyAllRow.holds Try.pinned (OpenSpec.ofChange fnExactApplyAllWrong)

/- THE SECOND FORM. 'bulk': how many values and letters a reading holds, each counted each time it is reached (what is shared counts as often as it is met; a slice's spare places count too). A statement '..UptoSaid' is the law's where the arguments, and the package variables that the reading takes, are together of bulk at most 1048576: NARROWER than '..Said'. Prove '..Said' where nothing that the law and all that it calls make is longer than what came in: it says more and counts as full. Else prove '..UptoSaid'. A law counts once. -/
mutual
def uptoBulk {H : Type} : DataW H → Nat
  | .lit (.string bytes) => bytes.length + 1
  | .lit _ => 1
  | .nil => 1
  | .ptr d => uptoBulk d + 1
  | .slice elems spare => uptoBulkAll elems + uptoBulkAll spare + 1
  | .agg parts => uptoBulkAll parts + 1
  | .iface _ d => uptoBulk d + 1
  | .map entries => uptoBulkEntries entries + 1
  | .held _ => 1
def uptoBulkAll {H : Type} : List (DataW H) → Nat
  | [] => 0
  | d :: r => uptoBulk d + uptoBulkAll r
def uptoBulkEntries {H : Type} : List (Lit × DataW H) → Nat
  | [] => 0
  | x :: r => uptoBulkEntry x + uptoBulkEntries r
def uptoBulkEntry {H : Type} : Lit × DataW H → Nat
  | (.string bytes, d) => bytes.length + uptoBulk d + 1
  | (_, d) => uptoBulk d + 1
 end
def uptoSmall : (H : Type) → List (DataW H) → Bool := fun _ ds => decide (uptoBulkAll ds ≤ 1048576)
def OpenSpec.upto (s : _root_.Go.ChangeSpec) : _root_.Go.OpenSpec := { _root_.Go.OpenSpec.ofChange s with cond := some uptoSmall }

/-- 'laws.FnTransformEdit', WHERE WHAT IT READS IS OF BULK AT MOST 1048576: true; the input reads as it did. -/
def fnTransformEditUptoRow : OpenClaim := { program := "ytdicfjgdceacpaa", sum := "a3a247f98f591b20643c0754c9a2a7c5ce30f2918f98e233c8ad3de60af4696a", func := "loop.example/livetyper/laws.FnTransformEdit", spec := "fnTransformEdit", apart := false, narrowed := true }
def FnTransformEditUptoSaid : Prop := fnTransformEditUptoRow.holds Try.pinned (OpenSpec.upto fnTransformEditSpec)

/-- 'laws.FnEditsClash', WHERE WHAT IT READS IS OF BULK AT MOST 1048576: true; the input reads as it did. -/
def fnEditsClashUptoRow : OpenClaim := { program := "ytdicfjgdceacpaa", sum := "a3a247f98f591b20643c0754c9a2a7c5ce30f2918f98e233c8ad3de60af4696a", func := "loop.example/livetyper/laws.FnEditsClash", spec := "fnEditsClash", apart := false, narrowed := true }
def FnEditsClashUptoSaid : Prop := fnEditsClashUptoRow.holds Try.pinned (OpenSpec.upto fnEditsClashSpec)

/-- 'laws.FnMergeEdits', WHERE WHAT IT READS IS OF BULK AT MOST 1048576: true; the input reads as it did. -/
def fnMergeEditsUptoRow : OpenClaim := { program := "ytdicfjgdceacpaa", sum := "a3a247f98f591b20643c0754c9a2a7c5ce30f2918f98e233c8ad3de60af4696a", func := "loop.example/livetyper/laws.FnMergeEdits", spec := "fnMergeEdits", apart := false, narrowed := true }
def FnMergeEditsUptoSaid : Prop := fnMergeEditsUptoRow.holds Try.pinned (OpenSpec.upto fnMergeEditsSpec)

/-- 'laws.FnApplyAll', WHERE WHAT IT READS IS OF BULK AT MOST 1048576: true; the input reads as it did. -/
def fnApplyAllUptoRow : OpenClaim := { program := "ytdicfjgdceacpaa", sum := "a3a247f98f591b20643c0754c9a2a7c5ce30f2918f98e233c8ad3de60af4696a", func := "loop.example/livetyper/laws.FnApplyAll", spec := "fnApplyAll", unfollowed := true, recurses := true, apart := false, narrowed := true }
def FnApplyAllUptoSaid : Prop := fnApplyAllUptoRow.holds Try.pinned (OpenSpec.upto fnApplyAllSpec)

/-- 'laws.FnEditsInOrder', WHERE WHAT IT READS IS OF BULK AT MOST 1048576: true; the input reads as it did. -/
def fnEditsInOrderUptoRow : OpenClaim := { program := "ytdicfjgdceacpaa", sum := "a3a247f98f591b20643c0754c9a2a7c5ce30f2918f98e233c8ad3de60af4696a", func := "loop.example/livetyper/laws.FnEditsInOrder", spec := "fnEditsInOrder", apart := false, narrowed := true }
def FnEditsInOrderUptoSaid : Prop := fnEditsInOrderUptoRow.holds Try.pinned (OpenSpec.upto fnEditsInOrderSpec)

/-- 'laws.FnTransformNothing', WHERE WHAT IT READS IS OF BULK AT MOST 1048576: true; the input reads as it did. -/
def fnTransformNothingUptoRow : OpenClaim := { program := "ytdicfjgdceacpaa", sum := "a3a247f98f591b20643c0754c9a2a7c5ce30f2918f98e233c8ad3de60af4696a", func := "loop.example/livetyper/laws.FnTransformNothing", spec := "fnTransformNothing", apart := false, narrowed := true }
def FnTransformNothingUptoSaid : Prop := fnTransformNothingUptoRow.holds Try.pinned (OpenSpec.upto fnTransformNothingSpec)

/-- 'laws.FnApplyOne', WHERE WHAT IT READS IS OF BULK AT MOST 1048576: true; the input reads as it did. -/
def fnApplyOneUptoRow : OpenClaim := { program := "ytdicfjgdceacpaa", sum := "a3a247f98f591b20643c0754c9a2a7c5ce30f2918f98e233c8ad3de60af4696a", func := "loop.example/livetyper/laws.FnApplyOne", spec := "fnApplyOne", unfollowed := true, recurses := true, apart := false, narrowed := true }
def FnApplyOneUptoSaid : Prop := fnApplyOneUptoRow.holds Try.pinned (OpenSpec.upto fnApplyOneSpec)

/-- 'laws.FnMergeUndo', WHERE WHAT IT READS IS OF BULK AT MOST 1048576: true; the input reads as it did. -/
def fnMergeUndoUptoRow : OpenClaim := { program := "ytdicfjgdceacpaa", sum := "a3a247f98f591b20643c0754c9a2a7c5ce30f2918f98e233c8ad3de60af4696a", func := "loop.example/livetyper/laws.FnMergeUndo", spec := "fnMergeUndo", apart := false, narrowed := true }
def FnMergeUndoUptoSaid : Prop := fnMergeUndoUptoRow.holds Try.pinned (OpenSpec.upto fnMergeUndoSpec)

/-- 'laws.FnClashParts', WHERE WHAT IT READS IS OF BULK AT MOST 1048576: true; the input reads as it did. -/
def fnClashPartsUptoRow : OpenClaim := { program := "ytdicfjgdceacpaa", sum := "a3a247f98f591b20643c0754c9a2a7c5ce30f2918f98e233c8ad3de60af4696a", func := "loop.example/livetyper/laws.FnClashParts", spec := "fnClashParts", apart := false, narrowed := true }
def FnClashPartsUptoSaid : Prop := fnClashPartsUptoRow.holds Try.pinned (OpenSpec.upto fnClashPartsSpec)

/-- 'laws.FnExactTransformEdit', WHERE WHAT IT READS IS OF BULK AT MOST 1048576: true; the input reads as it did. -/
def fnExactTransformEditUptoRow : OpenClaim := { program := "ytdicfjgdceacpaa", sum := "a3a247f98f591b20643c0754c9a2a7c5ce30f2918f98e233c8ad3de60af4696a", func := "loop.example/livetyper/laws.FnExactTransformEdit", spec := "fnExactTransformEdit", apart := false, narrowed := true }
def FnExactTransformEditUptoSaid : Prop := fnExactTransformEditUptoRow.holds Try.pinned (OpenSpec.upto fnExactTransformEditSpec)

/-- 'laws.FnExactEditsClash', WHERE WHAT IT READS IS OF BULK AT MOST 1048576: true; the input reads as it did. -/
def fnExactEditsClashUptoRow : OpenClaim := { program := "ytdicfjgdceacpaa", sum := "a3a247f98f591b20643c0754c9a2a7c5ce30f2918f98e233c8ad3de60af4696a", func := "loop.example/livetyper/laws.FnExactEditsClash", spec := "fnExactEditsClash", apart := false, narrowed := true }
def FnExactEditsClashUptoSaid : Prop := fnExactEditsClashUptoRow.holds Try.pinned (OpenSpec.upto fnExactEditsClashSpec)

/-- 'laws.FnExactMergeEdits', WHERE WHAT IT READS IS OF BULK AT MOST 1048576: true; the input reads as it did. -/
def fnExactMergeEditsUptoRow : OpenClaim := { program := "ytdicfjgdceacpaa", sum := "a3a247f98f591b20643c0754c9a2a7c5ce30f2918f98e233c8ad3de60af4696a", func := "loop.example/livetyper/laws.FnExactMergeEdits", spec := "fnExactMergeEdits", apart := false, narrowed := true }
def FnExactMergeEditsUptoSaid : Prop := fnExactMergeEditsUptoRow.holds Try.pinned (OpenSpec.upto fnExactMergeEditsSpec)

/-- 'laws.FnExactEditsInOrder', WHERE WHAT IT READS IS OF BULK AT MOST 1048576: true; the input reads as it did. -/
def fnExactEditsInOrderUptoRow : OpenClaim := { program := "ytdicfjgdceacpaa", sum := "a3a247f98f591b20643c0754c9a2a7c5ce30f2918f98e233c8ad3de60af4696a", func := "loop.example/livetyper/laws.FnExactEditsInOrder", spec := "fnExactEditsInOrder", apart := false, narrowed := true }
def FnExactEditsInOrderUptoSaid : Prop := fnExactEditsInOrderUptoRow.holds Try.pinned (OpenSpec.upto fnExactEditsInOrderSpec)

/-- 'laws.FnExactApplyAll', WHERE WHAT IT READS IS OF BULK AT MOST 1048576: true; the input reads as it did. -/
def fnExactApplyAllUptoRow : OpenClaim := { program := "ytdicfjgdceacpaa", sum := "a3a247f98f591b20643c0754c9a2a7c5ce30f2918f98e233c8ad3de60af4696a", func := "loop.example/livetyper/laws.FnExactApplyAll", spec := "fnExactApplyAll", unfollowed := true, recurses := true, apart := false, narrowed := true }
def FnExactApplyAllUptoSaid : Prop := fnExactApplyAllUptoRow.holds Try.pinned (OpenSpec.upto fnExactApplyAllSpec)

end Rows
end Go.Proofs.Ytdicfjgdceacpaa
