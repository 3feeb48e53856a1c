/-
  NARROWER THAN 'FOR EVERY INPUT', by the rows' own cells (each row's printed sentence says how): FnExactTypeValid: loops · FnExactFormatType: loops · FnExactTypeVars: loops · FnExactSubstVars: loops · FnExactCanonType: loops.
  DERIVED. THE GIVEN ROWS OF THIS SEAT. 6 by the template 'for every input the law returns true; each argument reads behind the call as it read before'; 0 by the template 'total and deterministic' (their statements: YtiaoopikmkakbaaTotals.lean).
  GIVEN WITH THE SEED: the statements are not yours to turn. If you find one false, say at which input.
  Laid BY PROGRAM, IN A SANDBOX (cutbox-rows.mjs): the forced cells as the released guide's own fill.sh prints them over the translation 413329e5cd7b8763… (all of the seat's roots in one cut). By AI agents, Wed Nov 11 2026. No macro, syntax, notation, axiom, sorry.
-/
import Derived.Test.YtiaoopikmkakbaaChecked
import GoSem.Claim
import GoSem.ClaimJoined
import GoSem.ClaimMapViews
import Derived.JoinedTies
import Derived.KernelRfl
namespace Go.Proofs.Ytiaoopikmkakbaa
/- THE CELL 'sum', in the pinned program and in every row, IS THE sha256 OF THE DUMP (.gsa) THAT YtiaoopikmkakbaaProg.lean LOADS. Nothing in Lean hashes anything: it is a label: what it is worth is what the hold of that sum in a sandbox is worth. -/
noncomputable def Try.pinned : Pinned := { name := "ytiaoopikmkakbaa", sum := "413329e5cd7b8763c6e91b19067e777c37d026f7e174a539d954c06a75c1d76d", checked := Try.checked }
namespace Rows
def none {H : Type} : Left H := { results := [], args := [] }

/-- 'laws.FnExactTypeValid': WHATEVER THE INPUT: true; the input reads as it did. -/
def fnExactTypeValidSpec : ChangeSpec := { name := "fnExactTypeValid", fn := fun _ => fun
  | [d] => { results := [.lit (.bool true)], args := [d] }
  | _ => none }
def fnExactTypeValidRow : OpenClaim := { program := "ytiaoopikmkakbaa", sum := "413329e5cd7b8763c6e91b19067e777c37d026f7e174a539d954c06a75c1d76d", func := "loop.example/livetyper/laws.FnExactTypeValid", spec := "fnExactTypeValid", recurses := true, loops := true, apart := false }
def FnExactTypeValidSaid : Prop := fnExactTypeValidRow.holds Try.pinned (OpenSpec.ofChange fnExactTypeValidSpec)

/-- ITS FALSE NEIGHBOUR: 'it returns false'. Refute it at one input. -/
def fnExactTypeValidWrong : ChangeSpec := { name := "fnExactTypeValid", fn := fun _ => fun
  | [d] => { results := [.lit (.bool false)], args := [d] }
  | _ => none }
def FnExactTypeValidWrongFalsely : Prop := fnExactTypeValidRow.holds Try.pinned (OpenSpec.ofChange fnExactTypeValidWrong)

/-- 'laws.FnExactFormatType': WHATEVER THE INPUT: true; the input reads as it did. -/
def fnExactFormatTypeSpec : ChangeSpec := { name := "fnExactFormatType", fn := fun _ => fun
  | [d] => { results := [.lit (.bool true)], args := [d] }
  | _ => none }
def fnExactFormatTypeRow : OpenClaim := { program := "ytiaoopikmkakbaa", sum := "413329e5cd7b8763c6e91b19067e777c37d026f7e174a539d954c06a75c1d76d", func := "loop.example/livetyper/laws.FnExactFormatType", spec := "fnExactFormatType", recurses := true, loops := true, apart := false }
def FnExactFormatTypeSaid : Prop := fnExactFormatTypeRow.holds Try.pinned (OpenSpec.ofChange fnExactFormatTypeSpec)

/-- ITS FALSE NEIGHBOUR: 'it returns false'. Refute it at one input. -/
def fnExactFormatTypeWrong : ChangeSpec := { name := "fnExactFormatType", fn := fun _ => fun
  | [d] => { results := [.lit (.bool false)], args := [d] }
  | _ => none }
def FnExactFormatTypeWrongFalsely : Prop := fnExactFormatTypeRow.holds Try.pinned (OpenSpec.ofChange fnExactFormatTypeWrong)

/-- 'laws.FnExactParseType': WHATEVER THE INPUT: true; the input reads as it did. -/
def fnExactParseTypeSpec : ChangeSpec := { name := "fnExactParseType", fn := fun _ => fun
  | [d] => { results := [.lit (.bool true)], args := [d] }
  | _ => none }
def fnExactParseTypeRow : OpenClaim := { program := "ytiaoopikmkakbaa", sum := "413329e5cd7b8763c6e91b19067e777c37d026f7e174a539d954c06a75c1d76d", func := "loop.example/livetyper/laws.FnExactParseType", spec := "fnExactParseType", recurses := true, apart := false }
def FnExactParseTypeSaid : Prop := fnExactParseTypeRow.holds Try.pinned (OpenSpec.ofChange fnExactParseTypeSpec)

/-- ITS FALSE NEIGHBOUR: 'it returns false'. Refute it at one input. -/
def fnExactParseTypeWrong : ChangeSpec := { name := "fnExactParseType", fn := fun _ => fun
  | [d] => { results := [.lit (.bool false)], args := [d] }
  | _ => none }
def FnExactParseTypeWrongFalsely : Prop := fnExactParseTypeRow.holds Try.pinned (OpenSpec.ofChange fnExactParseTypeWrong)

/-- 'laws.FnExactTypeVars': WHATEVER THE INPUT: true; the input reads as it did. -/
def fnExactTypeVarsSpec : ChangeSpec := { name := "fnExactTypeVars", fn := fun _ => fun
  | [d] => { results := [.lit (.bool true)], args := [d] }
  | _ => none }
def fnExactTypeVarsRow : OpenClaim := { program := "ytiaoopikmkakbaa", sum := "413329e5cd7b8763c6e91b19067e777c37d026f7e174a539d954c06a75c1d76d", func := "loop.example/livetyper/laws.FnExactTypeVars", spec := "fnExactTypeVars", recurses := true, loops := true, apart := false }
def FnExactTypeVarsSaid : Prop := fnExactTypeVarsRow.holds Try.pinned (OpenSpec.ofChange fnExactTypeVarsSpec)

/-- ITS FALSE NEIGHBOUR: 'it returns false'. Refute it at one input. -/
def fnExactTypeVarsWrong : ChangeSpec := { name := "fnExactTypeVars", fn := fun _ => fun
  | [d] => { results := [.lit (.bool false)], args := [d] }
  | _ => none }
def FnExactTypeVarsWrongFalsely : Prop := fnExactTypeVarsRow.holds Try.pinned (OpenSpec.ofChange fnExactTypeVarsWrong)

/-- 'laws.FnExactSubstVars': WHATEVER THE INPUT: true; the input reads as it did. -/
def fnExactSubstVarsSpec : ChangeSpec := { name := "fnExactSubstVars", fn := fun _ => fun
  | [d1, d2] => { results := [.lit (.bool true)], args := [d1, d2] }
  | _ => none }
def fnExactSubstVarsRow : OpenClaim := { program := "ytiaoopikmkakbaa", sum := "413329e5cd7b8763c6e91b19067e777c37d026f7e174a539d954c06a75c1d76d", func := "loop.example/livetyper/laws.FnExactSubstVars", spec := "fnExactSubstVars", unfollowed := true, recurses := true, loops := true, apart := false }
def FnExactSubstVarsSaid : Prop := fnExactSubstVarsRow.holds Try.pinned (OpenSpec.ofChange fnExactSubstVarsSpec)

/-- ITS FALSE NEIGHBOUR: 'it returns false'. Refute it at one input. -/
def fnExactSubstVarsWrong : ChangeSpec := { name := "fnExactSubstVars", fn := fun _ => fun
  | [d1, d2] => { results := [.lit (.bool false)], args := [d1, d2] }
  | _ => none }
def FnExactSubstVarsWrongFalsely : Prop := fnExactSubstVarsRow.holds Try.pinned (OpenSpec.ofChange fnExactSubstVarsWrong)

/-- 'laws.FnExactCanonType': WHATEVER THE INPUT: true; the input reads as it did. -/
def fnExactCanonTypeSpec : ChangeSpec := { name := "fnExactCanonType", fn := fun _ => fun
  | [d] => { results := [.lit (.bool true)], args := [d] }
  | _ => none }
def fnExactCanonTypeRow : OpenClaim := { program := "ytiaoopikmkakbaa", sum := "413329e5cd7b8763c6e91b19067e777c37d026f7e174a539d954c06a75c1d76d", func := "loop.example/livetyper/laws.FnExactCanonType", spec := "fnExactCanonType", unfollowed := true, recurses := true, loops := true, apart := false }
def FnExactCanonTypeSaid : Prop := fnExactCanonTypeRow.holds Try.pinned (OpenSpec.ofChange fnExactCanonTypeSpec)

/-- ITS FALSE NEIGHBOUR: 'it returns false'. Refute it at one input. -/
def fnExactCanonTypeWrong : ChangeSpec := { name := "fnExactCanonType", fn := fun _ => fun
  | [d] => { results := [.lit (.bool false)], args := [d] }
  | _ => none }
def FnExactCanonTypeWrongFalsely : Prop := fnExactCanonTypeRow.holds Try.pinned (OpenSpec.ofChange fnExactCanonTypeWrong)

/- THE SECOND FORM. 'bulk': how many values and letters a reading holds, each counted each time it is reached (what is shared counts as often as it is met; a slice's spare places count too). A statement '..UptoSaid' is the law's where the arguments, and the package variables that the reading takes, are together of bulk at most 1048576: NARROWER than '..Said'. Prove '..Said' where nothing that the law and all that it calls make is longer than what came in: it says more and counts as full. Else prove '..UptoSaid'. A law counts once. -/
mutual
def uptoBulk {H : Type} : DataW H → Nat
  | .lit (.string bytes) => bytes.length + 1
  | .lit _ => 1
  | .nil => 1
  | .ptr d => uptoBulk d + 1
  | .slice elems spare => uptoBulkAll elems + uptoBulkAll spare + 1
  | .agg parts => uptoBulkAll parts + 1
  | .iface _ d => uptoBulk d + 1
  | .map entries => uptoBulkEntries entries + 1
  | .held _ => 1
def uptoBulkAll {H : Type} : List (DataW H) → Nat
  | [] => 0
  | d :: r => uptoBulk d + uptoBulkAll r
def uptoBulkEntries {H : Type} : List (Lit × DataW H) → Nat
  | [] => 0
  | x :: r => uptoBulkEntry x + uptoBulkEntries r
def uptoBulkEntry {H : Type} : Lit × DataW H → Nat
  | (.string bytes, d) => bytes.length + uptoBulk d + 1
  | (_, d) => uptoBulk d + 1
 end
def uptoSmall : (H : Type) → List (DataW H) → Bool := fun _ ds => decide (uptoBulkAll ds ≤ 1048576)
def OpenSpec.upto (s : _root_.Go.ChangeSpec) : _root_.Go.OpenSpec := { _root_.Go.OpenSpec.ofChange s with cond := some uptoSmall }

/-- 'laws.FnExactTypeValid', WHERE WHAT IT READS IS OF BULK AT MOST 1048576: true; the input reads as it did. -/
def fnExactTypeValidUptoRow : OpenClaim := { program := "ytiaoopikmkakbaa", sum := "413329e5cd7b8763c6e91b19067e777c37d026f7e174a539d954c06a75c1d76d", func := "loop.example/livetyper/laws.FnExactTypeValid", spec := "fnExactTypeValid", recurses := true, loops := true, apart := false, narrowed := true }
def FnExactTypeValidUptoSaid : Prop := fnExactTypeValidUptoRow.holds Try.pinned (OpenSpec.upto fnExactTypeValidSpec)

/-- 'laws.FnExactFormatType', WHERE WHAT IT READS IS OF BULK AT MOST 1048576: true; the input reads as it did. -/
def fnExactFormatTypeUptoRow : OpenClaim := { program := "ytiaoopikmkakbaa", sum := "413329e5cd7b8763c6e91b19067e777c37d026f7e174a539d954c06a75c1d76d", func := "loop.example/livetyper/laws.FnExactFormatType", spec := "fnExactFormatType", recurses := true, loops := true, apart := false, narrowed := true }
def FnExactFormatTypeUptoSaid : Prop := fnExactFormatTypeUptoRow.holds Try.pinned (OpenSpec.upto fnExactFormatTypeSpec)

/-- 'laws.FnExactParseType', WHERE WHAT IT READS IS OF BULK AT MOST 1048576: true; the input reads as it did. -/
def fnExactParseTypeUptoRow : OpenClaim := { program := "ytiaoopikmkakbaa", sum := "413329e5cd7b8763c6e91b19067e777c37d026f7e174a539d954c06a75c1d76d", func := "loop.example/livetyper/laws.FnExactParseType", spec := "fnExactParseType", recurses := true, apart := false, narrowed := true }
def FnExactParseTypeUptoSaid : Prop := fnExactParseTypeUptoRow.holds Try.pinned (OpenSpec.upto fnExactParseTypeSpec)

/-- 'laws.FnExactTypeVars', WHERE WHAT IT READS IS OF BULK AT MOST 1048576: true; the input reads as it did. -/
def fnExactTypeVarsUptoRow : OpenClaim := { program := "ytiaoopikmkakbaa", sum := "413329e5cd7b8763c6e91b19067e777c37d026f7e174a539d954c06a75c1d76d", func := "loop.example/livetyper/laws.FnExactTypeVars", spec := "fnExactTypeVars", recurses := true, loops := true, apart := false, narrowed := true }
def FnExactTypeVarsUptoSaid : Prop := fnExactTypeVarsUptoRow.holds Try.pinned (OpenSpec.upto fnExactTypeVarsSpec)

/-- 'laws.FnExactSubstVars', WHERE WHAT IT READS IS OF BULK AT MOST 1048576: true; the input reads as it did. -/
def fnExactSubstVarsUptoRow : OpenClaim := { program := "ytiaoopikmkakbaa", sum := "413329e5cd7b8763c6e91b19067e777c37d026f7e174a539d954c06a75c1d76d", func := "loop.example/livetyper/laws.FnExactSubstVars", spec := "fnExactSubstVars", unfollowed := true, recurses := true, loops := true, apart := false, narrowed := true }
def FnExactSubstVarsUptoSaid : Prop := fnExactSubstVarsUptoRow.holds Try.pinned (OpenSpec.upto fnExactSubstVarsSpec)

/-- 'laws.FnExactCanonType', WHERE WHAT IT READS IS OF BULK AT MOST 1048576: true; the input reads as it did. -/
def fnExactCanonTypeUptoRow : OpenClaim := { program := "ytiaoopikmkakbaa", sum := "413329e5cd7b8763c6e91b19067e777c37d026f7e174a539d954c06a75c1d76d", func := "loop.example/livetyper/laws.FnExactCanonType", spec := "fnExactCanonType", unfollowed := true, recurses := true, loops := true, apart := false, narrowed := true }
def FnExactCanonTypeUptoSaid : Prop := fnExactCanonTypeUptoRow.holds Try.pinned (OpenSpec.upto fnExactCanonTypeSpec)

end Rows
end Go.Proofs.Ytiaoopikmkakbaa
