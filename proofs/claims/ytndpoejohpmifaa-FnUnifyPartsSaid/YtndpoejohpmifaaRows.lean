/-
  No cell of these rows narrows 'for every input' (looked for: loops, veiled, ifaces, maps, wideKeys, modest, calm, conditions, laid).
  DERIVED. THE GIVEN ROWS OF THIS SEAT. 8 by the template 'for every input the law returns true; each argument reads behind the call as it read before'; 0 by the template 'total and deterministic' (their statements: YtndpoejohpmifaaTotals.lean).
  GIVEN WITH THE SEED: the statements are not yours to turn. If you find one false, say at which input.
  Laid BY PROGRAM, IN A SANDBOX (cutbox-rows.mjs): the forced cells as the released guide's own fill.sh prints them over the translation 57bd631ad7033535… (all of the seat's roots in one cut). By AI agents, Wed Nov 11 2026. No macro, syntax, notation, axiom, sorry.
-/
import Derived.Test.YtndpoejohpmifaaChecked
import GoSem.Claim
import GoSem.ClaimJoined
import GoSem.ClaimMapViews
import Derived.JoinedTies
import Derived.KernelRfl
namespace Go.Proofs.Ytndpoejohpmifaa
/- THE CELL 'sum', in the pinned program and in every row, IS THE sha256 OF THE DUMP (.gsa) THAT YtndpoejohpmifaaProg.lean LOADS. Nothing in Lean hashes anything: it is a label: what it is worth is what the hold of that sum in a sandbox is worth. -/
noncomputable def Try.pinned : Pinned := { name := "ytndpoejohpmifaa", sum := "57bd631ad7033535f9fa60c7e17e2a965e0e9db07535e8b1f8ce8b4d23642b80", checked := Try.checked }
namespace Rows
def none {H : Type} : Left H := { results := [], args := [] }

/-- 'laws.FnTypeText': WHATEVER THE INPUT: true; the input reads as it did. -/
def fnTypeTextSpec : ChangeSpec := { name := "fnTypeText", fn := fun _ => fun
  | [d1, d2] => { results := [.lit (.bool true)], args := [d1, d2] }
  | _ => none }
def fnTypeTextRow : OpenClaim := { program := "ytndpoejohpmifaa", sum := "57bd631ad7033535f9fa60c7e17e2a965e0e9db07535e8b1f8ce8b4d23642b80", func := "loop.example/livetyper/laws.FnTypeText", spec := "fnTypeText", recurses := true, plainKeys := false, apart := false }
def FnTypeTextSaid : Prop := fnTypeTextRow.holds Try.pinned (OpenSpec.ofChange fnTypeTextSpec)

/-- ITS FALSE NEIGHBOUR: 'it returns false'. Refute it at one input. -/
def fnTypeTextWrong : ChangeSpec := { name := "fnTypeText", fn := fun _ => fun
  | [d1, d2] => { results := [.lit (.bool false)], args := [d1, d2] }
  | _ => none }
def FnTypeTextWrongFalsely : Prop := fnTypeTextRow.holds Try.pinned (OpenSpec.ofChange fnTypeTextWrong)

/-- 'laws.FnInstanceOf': WHATEVER THE INPUT: true; the input reads as it did. -/
def fnInstanceOfSpec : ChangeSpec := { name := "fnInstanceOf", fn := fun _ => fun
  | [d1, d2] => { results := [.lit (.bool true)], args := [d1, d2] }
  | _ => none }
def fnInstanceOfRow : OpenClaim := { program := "ytndpoejohpmifaa", sum := "57bd631ad7033535f9fa60c7e17e2a965e0e9db07535e8b1f8ce8b4d23642b80", func := "loop.example/livetyper/laws.FnInstanceOf", spec := "fnInstanceOf", unfollowed := true, recurses := true, plainKeys := false, apart := false }
def FnInstanceOfSaid : Prop := fnInstanceOfRow.holds Try.pinned (OpenSpec.ofChange fnInstanceOfSpec)

/-- ITS FALSE NEIGHBOUR: 'it returns false'. Refute it at one input. -/
def fnInstanceOfWrong : ChangeSpec := { name := "fnInstanceOf", fn := fun _ => fun
  | [d1, d2] => { results := [.lit (.bool false)], args := [d1, d2] }
  | _ => none }
def FnInstanceOfWrongFalsely : Prop := fnInstanceOfRow.holds Try.pinned (OpenSpec.ofChange fnInstanceOfWrong)

/-- 'laws.FnCanonType': WHATEVER THE INPUT: true; the input reads as it did. -/
def fnCanonTypeSpec : ChangeSpec := { name := "fnCanonType", fn := fun _ => fun
  | [d] => { results := [.lit (.bool true)], args := [d] }
  | _ => none }
def fnCanonTypeRow : OpenClaim := { program := "ytndpoejohpmifaa", sum := "57bd631ad7033535f9fa60c7e17e2a965e0e9db07535e8b1f8ce8b4d23642b80", func := "loop.example/livetyper/laws.FnCanonType", spec := "fnCanonType", unfollowed := true, recurses := true, plainKeys := false, apart := false }
def FnCanonTypeSaid : Prop := fnCanonTypeRow.holds Try.pinned (OpenSpec.ofChange fnCanonTypeSpec)

/-- ITS FALSE NEIGHBOUR: 'it returns false'. Refute it at one input. -/
def fnCanonTypeWrong : ChangeSpec := { name := "fnCanonType", fn := fun _ => fun
  | [d] => { results := [.lit (.bool false)], args := [d] }
  | _ => none }
def FnCanonTypeWrongFalsely : Prop := fnCanonTypeRow.holds Try.pinned (OpenSpec.ofChange fnCanonTypeWrong)

/-- 'laws.FnUnifyParts': WHATEVER THE INPUT: true; the input reads as it did. -/
def fnUnifyPartsSpec : ChangeSpec := { name := "fnUnifyParts", fn := fun _ => fun
  | [d] => { results := [.lit (.bool true)], args := [d] }
  | _ => none }
def fnUnifyPartsRow : OpenClaim := { program := "ytndpoejohpmifaa", sum := "57bd631ad7033535f9fa60c7e17e2a965e0e9db07535e8b1f8ce8b4d23642b80", func := "loop.example/livetyper/laws.FnUnifyParts", spec := "fnUnifyParts", unfollowed := true, recurses := true, plainKeys := false, apart := false }
def FnUnifyPartsSaid : Prop := fnUnifyPartsRow.holds Try.pinned (OpenSpec.ofChange fnUnifyPartsSpec)

/-- ITS FALSE NEIGHBOUR: 'it returns false'. Refute it at one input. -/
def fnUnifyPartsWrong : ChangeSpec := { name := "fnUnifyParts", fn := fun _ => fun
  | [d] => { results := [.lit (.bool false)], args := [d] }
  | _ => none }
def FnUnifyPartsWrongFalsely : Prop := fnUnifyPartsRow.holds Try.pinned (OpenSpec.ofChange fnUnifyPartsWrong)

/-- 'laws.FnTypeVars': WHATEVER THE INPUT: true; the input reads as it did. -/
def fnTypeVarsSpec : ChangeSpec := { name := "fnTypeVars", fn := fun _ => fun
  | [d] => { results := [.lit (.bool true)], args := [d] }
  | _ => none }
def fnTypeVarsRow : OpenClaim := { program := "ytndpoejohpmifaa", sum := "57bd631ad7033535f9fa60c7e17e2a965e0e9db07535e8b1f8ce8b4d23642b80", func := "loop.example/livetyper/laws.FnTypeVars", spec := "fnTypeVars", unfollowed := true, recurses := true, plainKeys := false, apart := false }
def FnTypeVarsSaid : Prop := fnTypeVarsRow.holds Try.pinned (OpenSpec.ofChange fnTypeVarsSpec)

/-- ITS FALSE NEIGHBOUR: 'it returns false'. Refute it at one input. -/
def fnTypeVarsWrong : ChangeSpec := { name := "fnTypeVars", fn := fun _ => fun
  | [d] => { results := [.lit (.bool false)], args := [d] }
  | _ => none }
def FnTypeVarsWrongFalsely : Prop := fnTypeVarsRow.holds Try.pinned (OpenSpec.ofChange fnTypeVarsWrong)

/-- 'laws.FnClosedInstance': WHATEVER THE INPUT: true; the input reads as it did. -/
def fnClosedInstanceSpec : ChangeSpec := { name := "fnClosedInstance", fn := fun _ => fun
  | [d1, d2] => { results := [.lit (.bool true)], args := [d1, d2] }
  | _ => none }
def fnClosedInstanceRow : OpenClaim := { program := "ytndpoejohpmifaa", sum := "57bd631ad7033535f9fa60c7e17e2a965e0e9db07535e8b1f8ce8b4d23642b80", func := "loop.example/livetyper/laws.FnClosedInstance", spec := "fnClosedInstance", recurses := true, plainKeys := false, apart := false }
def FnClosedInstanceSaid : Prop := fnClosedInstanceRow.holds Try.pinned (OpenSpec.ofChange fnClosedInstanceSpec)

/-- ITS FALSE NEIGHBOUR: 'it returns false'. Refute it at one input. -/
def fnClosedInstanceWrong : ChangeSpec := { name := "fnClosedInstance", fn := fun _ => fun
  | [d1, d2] => { results := [.lit (.bool false)], args := [d1, d2] }
  | _ => none }
def FnClosedInstanceWrongFalsely : Prop := fnClosedInstanceRow.holds Try.pinned (OpenSpec.ofChange fnClosedInstanceWrong)

/-- 'laws.FnFreeNames': WHATEVER THE INPUT: true; the input reads as it did. -/
def fnFreeNamesSpec : ChangeSpec := { name := "fnFreeNames", fn := fun _ => fun
  | [d] => { results := [.lit (.bool true)], args := [d] }
  | _ => none }
def fnFreeNamesRow : OpenClaim := { program := "ytndpoejohpmifaa", sum := "57bd631ad7033535f9fa60c7e17e2a965e0e9db07535e8b1f8ce8b4d23642b80", func := "loop.example/livetyper/laws.FnFreeNames", spec := "fnFreeNames", inPlace := ["internal/bytealg.IndexByteString", "internal/bytealg.IndexString", "internal/bytealg.CountString"], recurses := true, named := ["internal/bytealg.MaxLen"], plainKeys := false, apart := false }
def FnFreeNamesSaid : Prop := fnFreeNamesRow.holds Try.pinned (OpenSpec.ofChange fnFreeNamesSpec)

/-- ITS FALSE NEIGHBOUR: 'it returns false'. Refute it at one input. -/
def fnFreeNamesWrong : ChangeSpec := { name := "fnFreeNames", fn := fun _ => fun
  | [d] => { results := [.lit (.bool false)], args := [d] }
  | _ => none }
def FnFreeNamesWrongFalsely : Prop := fnFreeNamesRow.holds Try.pinned (OpenSpec.ofChange fnFreeNamesWrong)

/-- 'laws.FnFreeApp': WHATEVER THE INPUT: true; the input reads as it did. -/
def fnFreeAppSpec : ChangeSpec := { name := "fnFreeApp", fn := fun _ => fun
  | [d1, d2] => { results := [.lit (.bool true)], args := [d1, d2] }
  | _ => none }
def fnFreeAppRow : OpenClaim := { program := "ytndpoejohpmifaa", sum := "57bd631ad7033535f9fa60c7e17e2a965e0e9db07535e8b1f8ce8b4d23642b80", func := "loop.example/livetyper/laws.FnFreeApp", spec := "fnFreeApp", inPlace := ["internal/bytealg.IndexByteString", "internal/bytealg.IndexString", "internal/bytealg.CountString"], recurses := true, named := ["internal/bytealg.MaxLen"], plainKeys := false, apart := false }
def FnFreeAppSaid : Prop := fnFreeAppRow.holds Try.pinned (OpenSpec.ofChange fnFreeAppSpec)

/-- ITS FALSE NEIGHBOUR: 'it returns false'. Refute it at one input. -/
def fnFreeAppWrong : ChangeSpec := { name := "fnFreeApp", fn := fun _ => fun
  | [d1, d2] => { results := [.lit (.bool false)], args := [d1, d2] }
  | _ => none }
def FnFreeAppWrongFalsely : Prop := fnFreeAppRow.holds Try.pinned (OpenSpec.ofChange fnFreeAppWrong)

/- THE SECOND FORM. 'bulk': how many values and letters a reading holds, each counted each time it is reached (what is shared counts as often as it is met; a slice's spare places count too). A statement '..UptoSaid' is the law's where the arguments, and the package variables that the reading takes, are together of bulk at most 1048576: NARROWER than '..Said'. Prove '..Said' where nothing that the law and all that it calls make is longer than what came in: it says more and counts as full. Else prove '..UptoSaid'. A law counts once. -/
mutual
def uptoBulk {H : Type} : DataW H → Nat
  | .lit (.string bytes) => bytes.length + 1
  | .lit _ => 1
  | .nil => 1
  | .ptr d => uptoBulk d + 1
  | .slice elems spare => uptoBulkAll elems + uptoBulkAll spare + 1
  | .agg parts => uptoBulkAll parts + 1
  | .iface _ d => uptoBulk d + 1
  | .map entries => uptoBulkEntries entries + 1
  | .held _ => 1
def uptoBulkAll {H : Type} : List (DataW H) → Nat
  | [] => 0
  | d :: r => uptoBulk d + uptoBulkAll r
def uptoBulkEntries {H : Type} : List (Lit × DataW H) → Nat
  | [] => 0
  | x :: r => uptoBulkEntry x + uptoBulkEntries r
def uptoBulkEntry {H : Type} : Lit × DataW H → Nat
  | (.string bytes, d) => bytes.length + uptoBulk d + 1
  | (_, d) => uptoBulk d + 1
 end
def uptoSmall : (H : Type) → List (DataW H) → Bool := fun _ ds => decide (uptoBulkAll ds ≤ 1048576)
def OpenSpec.upto (s : _root_.Go.ChangeSpec) : _root_.Go.OpenSpec := { _root_.Go.OpenSpec.ofChange s with cond := some uptoSmall }

/-- 'laws.FnTypeText', WHERE WHAT IT READS IS OF BULK AT MOST 1048576: true; the input reads as it did. -/
def fnTypeTextUptoRow : OpenClaim := { program := "ytndpoejohpmifaa", sum := "57bd631ad7033535f9fa60c7e17e2a965e0e9db07535e8b1f8ce8b4d23642b80", func := "loop.example/livetyper/laws.FnTypeText", spec := "fnTypeText", recurses := true, plainKeys := false, apart := false, narrowed := true }
def FnTypeTextUptoSaid : Prop := fnTypeTextUptoRow.holds Try.pinned (OpenSpec.upto fnTypeTextSpec)

/-- 'laws.FnInstanceOf', WHERE WHAT IT READS IS OF BULK AT MOST 1048576: true; the input reads as it did. -/
def fnInstanceOfUptoRow : OpenClaim := { program := "ytndpoejohpmifaa", sum := "57bd631ad7033535f9fa60c7e17e2a965e0e9db07535e8b1f8ce8b4d23642b80", func := "loop.example/livetyper/laws.FnInstanceOf", spec := "fnInstanceOf", unfollowed := true, recurses := true, plainKeys := false, apart := false, narrowed := true }
def FnInstanceOfUptoSaid : Prop := fnInstanceOfUptoRow.holds Try.pinned (OpenSpec.upto fnInstanceOfSpec)

/-- 'laws.FnCanonType', WHERE WHAT IT READS IS OF BULK AT MOST 1048576: true; the input reads as it did. -/
def fnCanonTypeUptoRow : OpenClaim := { program := "ytndpoejohpmifaa", sum := "57bd631ad7033535f9fa60c7e17e2a965e0e9db07535e8b1f8ce8b4d23642b80", func := "loop.example/livetyper/laws.FnCanonType", spec := "fnCanonType", unfollowed := true, recurses := true, plainKeys := false, apart := false, narrowed := true }
def FnCanonTypeUptoSaid : Prop := fnCanonTypeUptoRow.holds Try.pinned (OpenSpec.upto fnCanonTypeSpec)

/-- 'laws.FnUnifyParts', WHERE WHAT IT READS IS OF BULK AT MOST 1048576: true; the input reads as it did. -/
def fnUnifyPartsUptoRow : OpenClaim := { program := "ytndpoejohpmifaa", sum := "57bd631ad7033535f9fa60c7e17e2a965e0e9db07535e8b1f8ce8b4d23642b80", func := "loop.example/livetyper/laws.FnUnifyParts", spec := "fnUnifyParts", unfollowed := true, recurses := true, plainKeys := false, apart := false, narrowed := true }
def FnUnifyPartsUptoSaid : Prop := fnUnifyPartsUptoRow.holds Try.pinned (OpenSpec.upto fnUnifyPartsSpec)

/-- 'laws.FnTypeVars', WHERE WHAT IT READS IS OF BULK AT MOST 1048576: true; the input reads as it did. -/
def fnTypeVarsUptoRow : OpenClaim := { program := "ytndpoejohpmifaa", sum := "57bd631ad7033535f9fa60c7e17e2a965e0e9db07535e8b1f8ce8b4d23642b80", func := "loop.example/livetyper/laws.FnTypeVars", spec := "fnTypeVars", unfollowed := true, recurses := true, plainKeys := false, apart := false, narrowed := true }
def FnTypeVarsUptoSaid : Prop := fnTypeVarsUptoRow.holds Try.pinned (OpenSpec.upto fnTypeVarsSpec)

/-- 'laws.FnClosedInstance', WHERE WHAT IT READS IS OF BULK AT MOST 1048576: true; the input reads as it did. -/
def fnClosedInstanceUptoRow : OpenClaim := { program := "ytndpoejohpmifaa", sum := "57bd631ad7033535f9fa60c7e17e2a965e0e9db07535e8b1f8ce8b4d23642b80", func := "loop.example/livetyper/laws.FnClosedInstance", spec := "fnClosedInstance", recurses := true, plainKeys := false, apart := false, narrowed := true }
def FnClosedInstanceUptoSaid : Prop := fnClosedInstanceUptoRow.holds Try.pinned (OpenSpec.upto fnClosedInstanceSpec)

/-- 'laws.FnFreeNames', WHERE WHAT IT READS IS OF BULK AT MOST 1048576: true; the input reads as it did. -/
def fnFreeNamesUptoRow : OpenClaim := { program := "ytndpoejohpmifaa", sum := "57bd631ad7033535f9fa60c7e17e2a965e0e9db07535e8b1f8ce8b4d23642b80", func := "loop.example/livetyper/laws.FnFreeNames", spec := "fnFreeNames", inPlace := ["internal/bytealg.IndexByteString", "internal/bytealg.IndexString", "internal/bytealg.CountString"], recurses := true, named := ["internal/bytealg.MaxLen"], plainKeys := false, apart := false, narrowed := true }
def FnFreeNamesUptoSaid : Prop := fnFreeNamesUptoRow.holds Try.pinned (OpenSpec.upto fnFreeNamesSpec)

/-- 'laws.FnFreeApp', WHERE WHAT IT READS IS OF BULK AT MOST 1048576: true; the input reads as it did. -/
def fnFreeAppUptoRow : OpenClaim := { program := "ytndpoejohpmifaa", sum := "57bd631ad7033535f9fa60c7e17e2a965e0e9db07535e8b1f8ce8b4d23642b80", func := "loop.example/livetyper/laws.FnFreeApp", spec := "fnFreeApp", inPlace := ["internal/bytealg.IndexByteString", "internal/bytealg.IndexString", "internal/bytealg.CountString"], recurses := true, named := ["internal/bytealg.MaxLen"], plainKeys := false, apart := false, narrowed := true }
def FnFreeAppUptoSaid : Prop := fnFreeAppUptoRow.holds Try.pinned (OpenSpec.upto fnFreeAppSpec)

end Rows
end Go.Proofs.Ytndpoejohpmifaa
