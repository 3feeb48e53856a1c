/-
  No cell of these rows narrows 'for every input' (looked for: loops, veiled, ifaces, maps, wideKeys, modest, calm, conditions, laid).
  DERIVED. THE GIVEN ROWS OF THIS SEAT. 4 by the template 'for every input the law returns true; each argument reads behind the call as it read before'; 0 by the template 'total and deterministic' (their statements: YtnnjnkeabljlaaaTotals.lean).
  GIVEN WITH THE SEED: the statements are not yours to turn. If you find one false, say at which input.
  Laid BY PROGRAM, IN A SANDBOX (cutbox-rows.mjs): the forced cells as the released guide's own fill.sh prints them over the translation a09ce1666a9e1188… (all of the seat's roots in one cut). By AI agents, Wed Nov 11 2026. No macro, syntax, notation, axiom, sorry.
-/
import Derived.Test.YtnnjnkeabljlaaaChecked
import GoSem.Claim
import GoSem.ClaimJoined
import GoSem.ClaimMapViews
import Derived.JoinedTies
import Derived.KernelRfl
namespace Go.Proofs.Ytnnjnkeabljlaaa
/- THE CELL 'sum', in the pinned program and in every row, IS THE sha256 OF THE DUMP (.gsa) THAT YtnnjnkeabljlaaaProg.lean LOADS. Nothing in Lean hashes anything: it is a label: what it is worth is what the hold of that sum in a sandbox is worth. -/
noncomputable def Try.pinned : Pinned := { name := "ytnnjnkeabljlaaa", sum := "a09ce1666a9e11880d5ed2c2199347791d9707994c25c29f9cb31fa8a923d8b7", checked := Try.checked }
namespace Rows
def none {H : Type} : Left H := { results := [], args := [] }

/-- 'laws.FnApplyAll': WHATEVER THE INPUT: true; the input reads as it did. -/
def fnApplyAllSpec : ChangeSpec := { name := "fnApplyAll", fn := fun _ => fun
  | [d] => { results := [.lit (.bool true)], args := [d] }
  | _ => none }
def fnApplyAllRow : OpenClaim := { program := "ytnnjnkeabljlaaa", sum := "a09ce1666a9e11880d5ed2c2199347791d9707994c25c29f9cb31fa8a923d8b7", func := "loop.example/livetyper/laws.FnApplyAll", spec := "fnApplyAll", unfollowed := true, recurses := true, apart := false }
def FnApplyAllSaid : Prop := fnApplyAllRow.holds Try.pinned (OpenSpec.ofChange fnApplyAllSpec)

/-- ITS FALSE NEIGHBOUR: 'it returns false'. Refute it at one input. -/
def fnApplyAllWrong : ChangeSpec := { name := "fnApplyAll", fn := fun _ => fun
  | [d] => { results := [.lit (.bool false)], args := [d] }
  | _ => none }
def FnApplyAllWrongFalsely : Prop := fnApplyAllRow.holds Try.pinned (OpenSpec.ofChange fnApplyAllWrong)

/-- 'laws.FnEditsInOrder': WHATEVER THE INPUT: true; the input reads as it did. -/
def fnEditsInOrderSpec : ChangeSpec := { name := "fnEditsInOrder", fn := fun _ => fun
  | [d] => { results := [.lit (.bool true)], args := [d] }
  | _ => none }
def fnEditsInOrderRow : OpenClaim := { program := "ytnnjnkeabljlaaa", sum := "a09ce1666a9e11880d5ed2c2199347791d9707994c25c29f9cb31fa8a923d8b7", func := "loop.example/livetyper/laws.FnEditsInOrder", spec := "fnEditsInOrder", apart := false }
def FnEditsInOrderSaid : Prop := fnEditsInOrderRow.holds Try.pinned (OpenSpec.ofChange fnEditsInOrderSpec)

/-- ITS FALSE NEIGHBOUR: 'it returns false'. Refute it at one input. -/
def fnEditsInOrderWrong : ChangeSpec := { name := "fnEditsInOrder", fn := fun _ => fun
  | [d] => { results := [.lit (.bool false)], args := [d] }
  | _ => none }
def FnEditsInOrderWrongFalsely : Prop := fnEditsInOrderRow.holds Try.pinned (OpenSpec.ofChange fnEditsInOrderWrong)

/-- 'laws.FnApplyOne': WHATEVER THE INPUT: true; the input reads as it did. -/
def fnApplyOneSpec : ChangeSpec := { name := "fnApplyOne", fn := fun _ => fun
  | [d] => { results := [.lit (.bool true)], args := [d] }
  | _ => none }
def fnApplyOneRow : OpenClaim := { program := "ytnnjnkeabljlaaa", sum := "a09ce1666a9e11880d5ed2c2199347791d9707994c25c29f9cb31fa8a923d8b7", func := "loop.example/livetyper/laws.FnApplyOne", spec := "fnApplyOne", unfollowed := true, recurses := true, apart := false }
def FnApplyOneSaid : Prop := fnApplyOneRow.holds Try.pinned (OpenSpec.ofChange fnApplyOneSpec)

/-- ITS FALSE NEIGHBOUR: 'it returns false'. Refute it at one input. -/
def fnApplyOneWrong : ChangeSpec := { name := "fnApplyOne", fn := fun _ => fun
  | [d] => { results := [.lit (.bool false)], args := [d] }
  | _ => none }
def FnApplyOneWrongFalsely : Prop := fnApplyOneRow.holds Try.pinned (OpenSpec.ofChange fnApplyOneWrong)

/-- 'laws.FnExactApplyAll': WHATEVER THE INPUT: true; the input reads as it did. -/
def fnExactApplyAllSpec : ChangeSpec := { name := "fnExactApplyAll", fn := fun _ => fun
  | [d1, d2] => { results := [.lit (.bool true)], args := [d1, d2] }
  | _ => none }
def fnExactApplyAllRow : OpenClaim := { program := "ytnnjnkeabljlaaa", sum := "a09ce1666a9e11880d5ed2c2199347791d9707994c25c29f9cb31fa8a923d8b7", func := "loop.example/livetyper/laws.FnExactApplyAll", spec := "fnExactApplyAll", unfollowed := true, recurses := true, apart := false }
def FnExactApplyAllSaid : Prop := fnExactApplyAllRow.holds Try.pinned (OpenSpec.ofChange fnExactApplyAllSpec)

/-- ITS FALSE NEIGHBOUR: 'it returns false'. Refute it at one input. -/
def fnExactApplyAllWrong : ChangeSpec := { name := "fnExactApplyAll", fn := fun _ => fun
  | [d1, d2] => { results := [.lit (.bool false)], args := [d1, d2] }
  | _ => none }
def FnExactApplyAllWrongFalsely : Prop := fnExactApplyAllRow.holds Try.pinned (OpenSpec.ofChange fnExactApplyAllWrong)

/- THE SECOND FORM. 'bulk': how many values and letters a reading holds, each counted each time it is reached (what is shared counts as often as it is met; a slice's spare places count too). A statement '..UptoSaid' is the law's where the arguments, and the package variables that the reading takes, are together of bulk at most 1048576: NARROWER than '..Said'. Prove '..Said' where nothing that the law and all that it calls make is longer than what came in: it says more and counts as full. Else prove '..UptoSaid'. A law counts once. -/
mutual
def uptoBulk {H : Type} : DataW H → Nat
  | .lit (.string bytes) => bytes.length + 1
  | .lit _ => 1
  | .nil => 1
  | .ptr d => uptoBulk d + 1
  | .slice elems spare => uptoBulkAll elems + uptoBulkAll spare + 1
  | .agg parts => uptoBulkAll parts + 1
  | .iface _ d => uptoBulk d + 1
  | .map entries => uptoBulkEntries entries + 1
  | .held _ => 1
def uptoBulkAll {H : Type} : List (DataW H) → Nat
  | [] => 0
  | d :: r => uptoBulk d + uptoBulkAll r
def uptoBulkEntries {H : Type} : List (Lit × DataW H) → Nat
  | [] => 0
  | x :: r => uptoBulkEntry x + uptoBulkEntries r
def uptoBulkEntry {H : Type} : Lit × DataW H → Nat
  | (.string bytes, d) => bytes.length + uptoBulk d + 1
  | (_, d) => uptoBulk d + 1
 end
def uptoSmall : (H : Type) → List (DataW H) → Bool := fun _ ds => decide (uptoBulkAll ds ≤ 1048576)
def OpenSpec.upto (s : _root_.Go.ChangeSpec) : _root_.Go.OpenSpec := { _root_.Go.OpenSpec.ofChange s with cond := some uptoSmall }

/-- 'laws.FnApplyAll', WHERE WHAT IT READS IS OF BULK AT MOST 1048576: true; the input reads as it did. -/
def fnApplyAllUptoRow : OpenClaim := { program := "ytnnjnkeabljlaaa", sum := "a09ce1666a9e11880d5ed2c2199347791d9707994c25c29f9cb31fa8a923d8b7", func := "loop.example/livetyper/laws.FnApplyAll", spec := "fnApplyAll", unfollowed := true, recurses := true, apart := false, narrowed := true }
def FnApplyAllUptoSaid : Prop := fnApplyAllUptoRow.holds Try.pinned (OpenSpec.upto fnApplyAllSpec)

/-- 'laws.FnEditsInOrder', WHERE WHAT IT READS IS OF BULK AT MOST 1048576: true; the input reads as it did. -/
def fnEditsInOrderUptoRow : OpenClaim := { program := "ytnnjnkeabljlaaa", sum := "a09ce1666a9e11880d5ed2c2199347791d9707994c25c29f9cb31fa8a923d8b7", func := "loop.example/livetyper/laws.FnEditsInOrder", spec := "fnEditsInOrder", apart := false, narrowed := true }
def FnEditsInOrderUptoSaid : Prop := fnEditsInOrderUptoRow.holds Try.pinned (OpenSpec.upto fnEditsInOrderSpec)

/-- 'laws.FnApplyOne', WHERE WHAT IT READS IS OF BULK AT MOST 1048576: true; the input reads as it did. -/
def fnApplyOneUptoRow : OpenClaim := { program := "ytnnjnkeabljlaaa", sum := "a09ce1666a9e11880d5ed2c2199347791d9707994c25c29f9cb31fa8a923d8b7", func := "loop.example/livetyper/laws.FnApplyOne", spec := "fnApplyOne", unfollowed := true, recurses := true, apart := false, narrowed := true }
def FnApplyOneUptoSaid : Prop := fnApplyOneUptoRow.holds Try.pinned (OpenSpec.upto fnApplyOneSpec)

/-- 'laws.FnExactApplyAll', WHERE WHAT IT READS IS OF BULK AT MOST 1048576: true; the input reads as it did. -/
def fnExactApplyAllUptoRow : OpenClaim := { program := "ytnnjnkeabljlaaa", sum := "a09ce1666a9e11880d5ed2c2199347791d9707994c25c29f9cb31fa8a923d8b7", func := "loop.example/livetyper/laws.FnExactApplyAll", spec := "fnExactApplyAll", unfollowed := true, recurses := true, apart := false, narrowed := true }
def FnExactApplyAllUptoSaid : Prop := fnExactApplyAllUptoRow.holds Try.pinned (OpenSpec.upto fnExactApplyAllSpec)

end Rows
end Go.Proofs.Ytnnjnkeabljlaaa
