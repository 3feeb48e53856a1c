/-
  No cell of these rows narrows 'for every input' (looked for: loops, veiled, ifaces, maps, wideKeys, modest, calm, conditions, laid).
  DERIVED. THE GIVEN ROWS OF THIS SEAT. 7 by the template 'for every input the law returns true; each argument reads behind the call as it read before'; 0 by the template 'total and deterministic' (their statements: YthannbkkpocejabTotals.lean).
  GIVEN WITH THE SEED: the statements are not yours to turn. If you find one false, say at which input.
  Laid BY PROGRAM, IN A SANDBOX (cutbox-rows.mjs): the forced cells as the released guide's own fill.sh prints them over the translation 9d7b1928af50ed18… (all of the seat's roots in one cut). By AI agents, Wed Nov 11 2026. No macro, syntax, notation, axiom, sorry.
-/
import Derived.Test.YthannbkkpocejabChecked
import GoSem.Claim
import GoSem.ClaimJoined
import GoSem.ClaimMapViews
import Derived.JoinedTies
import Derived.KernelRfl
namespace Go.Proofs.Ythannbkkpocejab
/- THE CELL 'sum', in the pinned program and in every row, IS THE sha256 OF THE DUMP (.gsa) THAT YthannbkkpocejabProg.lean LOADS. Nothing in Lean hashes anything: it is a label: what it is worth is what the hold of that sum in a sandbox is worth. -/
noncomputable def Try.pinned : Pinned := { name := "ythannbkkpocejab", sum := "9d7b1928af50ed181a3d6519e1f0edce7e32a14950750575f94665c742811ef5", checked := Try.checked }
namespace Rows
def none {H : Type} : Left H := { results := [], args := [] }

/-- 'laws.FnExactEditValid': WHATEVER THE INPUT: true; the input reads as it did. -/
def fnExactEditValidSpec : ChangeSpec := { name := "fnExactEditValid", fn := fun _ => fun
  | [d1, d2] => { results := [.lit (.bool true)], args := [d1, d2] }
  | _ => none }
def fnExactEditValidRow : OpenClaim := { program := "ythannbkkpocejab", sum := "9d7b1928af50ed181a3d6519e1f0edce7e32a14950750575f94665c742811ef5", func := "loop.example/livetyper/laws.FnExactEditValid", spec := "fnExactEditValid", apart := false }
def FnExactEditValidSaid : Prop := fnExactEditValidRow.holds Try.pinned (OpenSpec.ofChange fnExactEditValidSpec)

/-- ITS FALSE NEIGHBOUR: 'it returns false'. Refute it at one input. -/
def fnExactEditValidWrong : ChangeSpec := { name := "fnExactEditValid", fn := fun _ => fun
  | [d1, d2] => { results := [.lit (.bool false)], args := [d1, d2] }
  | _ => none }
def FnExactEditValidWrongFalsely : Prop := fnExactEditValidRow.holds Try.pinned (OpenSpec.ofChange fnExactEditValidWrong)

/-- 'laws.FnExactApplyEdit': WHATEVER THE INPUT: true; the input reads as it did. -/
def fnExactApplyEditSpec : ChangeSpec := { name := "fnExactApplyEdit", fn := fun _ => fun
  | [d1, d2] => { results := [.lit (.bool true)], args := [d1, d2] }
  | _ => none }
def fnExactApplyEditRow : OpenClaim := { program := "ythannbkkpocejab", sum := "9d7b1928af50ed181a3d6519e1f0edce7e32a14950750575f94665c742811ef5", func := "loop.example/livetyper/laws.FnExactApplyEdit", spec := "fnExactApplyEdit", apart := false }
def FnExactApplyEditSaid : Prop := fnExactApplyEditRow.holds Try.pinned (OpenSpec.ofChange fnExactApplyEditSpec)

/-- ITS FALSE NEIGHBOUR: 'it returns false'. Refute it at one input. -/
def fnExactApplyEditWrong : ChangeSpec := { name := "fnExactApplyEdit", fn := fun _ => fun
  | [d1, d2] => { results := [.lit (.bool false)], args := [d1, d2] }
  | _ => none }
def FnExactApplyEditWrongFalsely : Prop := fnExactApplyEditRow.holds Try.pinned (OpenSpec.ofChange fnExactApplyEditWrong)

/-- 'laws.FnExactInvertEdit': WHATEVER THE INPUT: true; the input reads as it did. -/
def fnExactInvertEditSpec : ChangeSpec := { name := "fnExactInvertEdit", fn := fun _ => fun
  | [d1, d2] => { results := [.lit (.bool true)], args := [d1, d2] }
  | _ => none }
def fnExactInvertEditRow : OpenClaim := { program := "ythannbkkpocejab", sum := "9d7b1928af50ed181a3d6519e1f0edce7e32a14950750575f94665c742811ef5", func := "loop.example/livetyper/laws.FnExactInvertEdit", spec := "fnExactInvertEdit", apart := false }
def FnExactInvertEditSaid : Prop := fnExactInvertEditRow.holds Try.pinned (OpenSpec.ofChange fnExactInvertEditSpec)

/-- ITS FALSE NEIGHBOUR: 'it returns false'. Refute it at one input. -/
def fnExactInvertEditWrong : ChangeSpec := { name := "fnExactInvertEdit", fn := fun _ => fun
  | [d1, d2] => { results := [.lit (.bool false)], args := [d1, d2] }
  | _ => none }
def FnExactInvertEditWrongFalsely : Prop := fnExactInvertEditRow.holds Try.pinned (OpenSpec.ofChange fnExactInvertEditWrong)

/-- 'laws.FnExactComposeEdits': WHATEVER THE INPUT: true; the input reads as it did. -/
def fnExactComposeEditsSpec : ChangeSpec := { name := "fnExactComposeEdits", fn := fun _ => fun
  | [d1, d2, d3] => { results := [.lit (.bool true)], args := [d1, d2, d3] }
  | _ => none }
def fnExactComposeEditsRow : OpenClaim := { program := "ythannbkkpocejab", sum := "9d7b1928af50ed181a3d6519e1f0edce7e32a14950750575f94665c742811ef5", func := "loop.example/livetyper/laws.FnExactComposeEdits", spec := "fnExactComposeEdits", apart := false }
def FnExactComposeEditsSaid : Prop := fnExactComposeEditsRow.holds Try.pinned (OpenSpec.ofChange fnExactComposeEditsSpec)

/-- ITS FALSE NEIGHBOUR: 'it returns false'. Refute it at one input. -/
def fnExactComposeEditsWrong : ChangeSpec := { name := "fnExactComposeEdits", fn := fun _ => fun
  | [d1, d2, d3] => { results := [.lit (.bool false)], args := [d1, d2, d3] }
  | _ => none }
def FnExactComposeEditsWrongFalsely : Prop := fnExactComposeEditsRow.holds Try.pinned (OpenSpec.ofChange fnExactComposeEditsWrong)

/-- 'laws.FnExactDiffEdit': WHATEVER THE INPUT: true; the input reads as it did. -/
def fnExactDiffEditSpec : ChangeSpec := { name := "fnExactDiffEdit", fn := fun _ => fun
  | [d1, d2] => { results := [.lit (.bool true)], args := [d1, d2] }
  | _ => none }
def fnExactDiffEditRow : OpenClaim := { program := "ythannbkkpocejab", sum := "9d7b1928af50ed181a3d6519e1f0edce7e32a14950750575f94665c742811ef5", func := "loop.example/livetyper/laws.FnExactDiffEdit", spec := "fnExactDiffEdit", apart := false }
def FnExactDiffEditSaid : Prop := fnExactDiffEditRow.holds Try.pinned (OpenSpec.ofChange fnExactDiffEditSpec)

/-- ITS FALSE NEIGHBOUR: 'it returns false'. Refute it at one input. -/
def fnExactDiffEditWrong : ChangeSpec := { name := "fnExactDiffEdit", fn := fun _ => fun
  | [d1, d2] => { results := [.lit (.bool false)], args := [d1, d2] }
  | _ => none }
def FnExactDiffEditWrongFalsely : Prop := fnExactDiffEditRow.holds Try.pinned (OpenSpec.ofChange fnExactDiffEditWrong)

/-- 'laws.FnExactMoveOffset': WHATEVER THE INPUT: true; the input reads as it did. -/
def fnExactMoveOffsetSpec : ChangeSpec := { name := "fnExactMoveOffset", fn := fun _ => fun
  | [d1, d2, d3] => { results := [.lit (.bool true)], args := [d1, d2, d3] }
  | _ => none }
def fnExactMoveOffsetRow : OpenClaim := { program := "ythannbkkpocejab", sum := "9d7b1928af50ed181a3d6519e1f0edce7e32a14950750575f94665c742811ef5", func := "loop.example/livetyper/laws.FnExactMoveOffset", spec := "fnExactMoveOffset", apart := false }
def FnExactMoveOffsetSaid : Prop := fnExactMoveOffsetRow.holds Try.pinned (OpenSpec.ofChange fnExactMoveOffsetSpec)

/-- ITS FALSE NEIGHBOUR: 'it returns false'. Refute it at one input. -/
def fnExactMoveOffsetWrong : ChangeSpec := { name := "fnExactMoveOffset", fn := fun _ => fun
  | [d1, d2, d3] => { results := [.lit (.bool false)], args := [d1, d2, d3] }
  | _ => none }
def FnExactMoveOffsetWrongFalsely : Prop := fnExactMoveOffsetRow.holds Try.pinned (OpenSpec.ofChange fnExactMoveOffsetWrong)

/-- 'laws.FnExactPosOf': WHATEVER THE INPUT: true; the input reads as it did. -/
def fnExactPosOfSpec : ChangeSpec := { name := "fnExactPosOf", fn := fun _ => fun
  | [d1, d2] => { results := [.lit (.bool true)], args := [d1, d2] }
  | _ => none }
def fnExactPosOfRow : OpenClaim := { program := "ythannbkkpocejab", sum := "9d7b1928af50ed181a3d6519e1f0edce7e32a14950750575f94665c742811ef5", func := "loop.example/livetyper/laws.FnExactPosOf", spec := "fnExactPosOf", inPlace := ["internal/bytealg.CountString", "internal/bytealg.IndexByteString", "internal/bytealg.IndexString"], named := ["internal/bytealg.MaxLen"], apart := false }
def FnExactPosOfSaid : Prop := fnExactPosOfRow.holds Try.pinned (OpenSpec.ofChange fnExactPosOfSpec)

/-- ITS FALSE NEIGHBOUR: 'it returns false'. Refute it at one input. -/
def fnExactPosOfWrong : ChangeSpec := { name := "fnExactPosOf", fn := fun _ => fun
  | [d1, d2] => { results := [.lit (.bool false)], args := [d1, d2] }
  | _ => none }
def FnExactPosOfWrongFalsely : Prop := fnExactPosOfRow.holds Try.pinned (OpenSpec.ofChange fnExactPosOfWrong)

/- THE SECOND FORM. 'bulk': how many values and letters a reading holds, each counted each time it is reached (what is shared counts as often as it is met; a slice's spare places count too). A statement '..UptoSaid' is the law's where the arguments, and the package variables that the reading takes, are together of bulk at most 1048576: NARROWER than '..Said'. Prove '..Said' where nothing that the law and all that it calls make is longer than what came in: it says more and counts as full. Else prove '..UptoSaid'. A law counts once. -/
mutual
def uptoBulk {H : Type} : DataW H → Nat
  | .lit (.string bytes) => bytes.length + 1
  | .lit _ => 1
  | .nil => 1
  | .ptr d => uptoBulk d + 1
  | .slice elems spare => uptoBulkAll elems + uptoBulkAll spare + 1
  | .agg parts => uptoBulkAll parts + 1
  | .iface _ d => uptoBulk d + 1
  | .map entries => uptoBulkEntries entries + 1
  | .held _ => 1
def uptoBulkAll {H : Type} : List (DataW H) → Nat
  | [] => 0
  | d :: r => uptoBulk d + uptoBulkAll r
def uptoBulkEntries {H : Type} : List (Lit × DataW H) → Nat
  | [] => 0
  | x :: r => uptoBulkEntry x + uptoBulkEntries r
def uptoBulkEntry {H : Type} : Lit × DataW H → Nat
  | (.string bytes, d) => bytes.length + uptoBulk d + 1
  | (_, d) => uptoBulk d + 1
 end
def uptoSmall : (H : Type) → List (DataW H) → Bool := fun _ ds => decide (uptoBulkAll ds ≤ 1048576)
def OpenSpec.upto (s : _root_.Go.ChangeSpec) : _root_.Go.OpenSpec := { _root_.Go.OpenSpec.ofChange s with cond := some uptoSmall }

/-- 'laws.FnExactEditValid', WHERE WHAT IT READS IS OF BULK AT MOST 1048576: true; the input reads as it did. -/
def fnExactEditValidUptoRow : OpenClaim := { program := "ythannbkkpocejab", sum := "9d7b1928af50ed181a3d6519e1f0edce7e32a14950750575f94665c742811ef5", func := "loop.example/livetyper/laws.FnExactEditValid", spec := "fnExactEditValid", apart := false, narrowed := true }
def FnExactEditValidUptoSaid : Prop := fnExactEditValidUptoRow.holds Try.pinned (OpenSpec.upto fnExactEditValidSpec)

/-- 'laws.FnExactApplyEdit', WHERE WHAT IT READS IS OF BULK AT MOST 1048576: true; the input reads as it did. -/
def fnExactApplyEditUptoRow : OpenClaim := { program := "ythannbkkpocejab", sum := "9d7b1928af50ed181a3d6519e1f0edce7e32a14950750575f94665c742811ef5", func := "loop.example/livetyper/laws.FnExactApplyEdit", spec := "fnExactApplyEdit", apart := false, narrowed := true }
def FnExactApplyEditUptoSaid : Prop := fnExactApplyEditUptoRow.holds Try.pinned (OpenSpec.upto fnExactApplyEditSpec)

/-- 'laws.FnExactInvertEdit', WHERE WHAT IT READS IS OF BULK AT MOST 1048576: true; the input reads as it did. -/
def fnExactInvertEditUptoRow : OpenClaim := { program := "ythannbkkpocejab", sum := "9d7b1928af50ed181a3d6519e1f0edce7e32a14950750575f94665c742811ef5", func := "loop.example/livetyper/laws.FnExactInvertEdit", spec := "fnExactInvertEdit", apart := false, narrowed := true }
def FnExactInvertEditUptoSaid : Prop := fnExactInvertEditUptoRow.holds Try.pinned (OpenSpec.upto fnExactInvertEditSpec)

/-- 'laws.FnExactComposeEdits', WHERE WHAT IT READS IS OF BULK AT MOST 1048576: true; the input reads as it did. -/
def fnExactComposeEditsUptoRow : OpenClaim := { program := "ythannbkkpocejab", sum := "9d7b1928af50ed181a3d6519e1f0edce7e32a14950750575f94665c742811ef5", func := "loop.example/livetyper/laws.FnExactComposeEdits", spec := "fnExactComposeEdits", apart := false, narrowed := true }
def FnExactComposeEditsUptoSaid : Prop := fnExactComposeEditsUptoRow.holds Try.pinned (OpenSpec.upto fnExactComposeEditsSpec)

/-- 'laws.FnExactDiffEdit', WHERE WHAT IT READS IS OF BULK AT MOST 1048576: true; the input reads as it did. -/
def fnExactDiffEditUptoRow : OpenClaim := { program := "ythannbkkpocejab", sum := "9d7b1928af50ed181a3d6519e1f0edce7e32a14950750575f94665c742811ef5", func := "loop.example/livetyper/laws.FnExactDiffEdit", spec := "fnExactDiffEdit", apart := false, narrowed := true }
def FnExactDiffEditUptoSaid : Prop := fnExactDiffEditUptoRow.holds Try.pinned (OpenSpec.upto fnExactDiffEditSpec)

/-- 'laws.FnExactMoveOffset', WHERE WHAT IT READS IS OF BULK AT MOST 1048576: true; the input reads as it did. -/
def fnExactMoveOffsetUptoRow : OpenClaim := { program := "ythannbkkpocejab", sum := "9d7b1928af50ed181a3d6519e1f0edce7e32a14950750575f94665c742811ef5", func := "loop.example/livetyper/laws.FnExactMoveOffset", spec := "fnExactMoveOffset", apart := false, narrowed := true }
def FnExactMoveOffsetUptoSaid : Prop := fnExactMoveOffsetUptoRow.holds Try.pinned (OpenSpec.upto fnExactMoveOffsetSpec)

/-- 'laws.FnExactPosOf', WHERE WHAT IT READS IS OF BULK AT MOST 1048576: true; the input reads as it did. -/
def fnExactPosOfUptoRow : OpenClaim := { program := "ythannbkkpocejab", sum := "9d7b1928af50ed181a3d6519e1f0edce7e32a14950750575f94665c742811ef5", func := "loop.example/livetyper/laws.FnExactPosOf", spec := "fnExactPosOf", inPlace := ["internal/bytealg.CountString", "internal/bytealg.IndexByteString", "internal/bytealg.IndexString"], named := ["internal/bytealg.MaxLen"], apart := false, narrowed := true }
def FnExactPosOfUptoSaid : Prop := fnExactPosOfUptoRow.holds Try.pinned (OpenSpec.upto fnExactPosOfSpec)

end Rows
end Go.Proofs.Ythannbkkpocejab
