/-
  NARROWER THAN 'FOR EVERY INPUT', by the rows' own cells (each row's printed sentence says how): FnExactUnifyTypes: loops.
  DERIVED. THE GIVEN ROWS OF THIS SEAT. 5 by the template 'for every input the law returns true; each argument reads behind the call as it read before'; 0 by the template 'total and deterministic' (their statements: YtjhccdioainibaaTotals.lean).
  GIVEN WITH THE SEED: the statements are not yours to turn. If you find one false, say at which input.
  Laid BY PROGRAM, IN A SANDBOX (cutbox-rows.mjs): the forced cells as the released guide's own fill.sh prints them over the translation 062b15c56fb413b3… (all of the seat's roots in one cut). By AI agents, Wed Nov 11 2026. No macro, syntax, notation, axiom, sorry.
-/
import Derived.Test.YtjhccdioainibaaChecked
import GoSem.Claim
import GoSem.ClaimJoined
import GoSem.ClaimMapViews
import Derived.JoinedTies
import Derived.KernelRfl
namespace Go.Proofs.Ytjhccdioainibaa
/- THE CELL 'sum', in the pinned program and in every row, IS THE sha256 OF THE DUMP (.gsa) THAT YtjhccdioainibaaProg.lean LOADS. Nothing in Lean hashes anything: it is a label: what it is worth is what the hold of that sum in a sandbox is worth. -/
noncomputable def Try.pinned : Pinned := { name := "ytjhccdioainibaa", sum := "062b15c56fb413b3735c59263fa259b41912ccd50b15e5e4dbf4979e82143678", checked := Try.checked }
namespace Rows
def none {H : Type} : Left H := { results := [], args := [] }

/-- 'laws.FnExactUnifyTypes': WHATEVER THE INPUT: true; the input reads as it did. -/
def fnExactUnifyTypesSpec : ChangeSpec := { name := "fnExactUnifyTypes", fn := fun _ => fun
  | [d1, d2] => { results := [.lit (.bool true)], args := [d1, d2] }
  | _ => none }
def fnExactUnifyTypesRow : OpenClaim := { program := "ytjhccdioainibaa", sum := "062b15c56fb413b3735c59263fa259b41912ccd50b15e5e4dbf4979e82143678", func := "loop.example/livetyper/laws.FnExactUnifyTypes", spec := "fnExactUnifyTypes", unfollowed := true, recurses := true, loops := true, plainKeys := false, apart := false }
def FnExactUnifyTypesSaid : Prop := fnExactUnifyTypesRow.holds Try.pinned (OpenSpec.ofChange fnExactUnifyTypesSpec)

/-- ITS FALSE NEIGHBOUR: 'it returns false'. Refute it at one input. -/
def fnExactUnifyTypesWrong : ChangeSpec := { name := "fnExactUnifyTypes", fn := fun _ => fun
  | [d1, d2] => { results := [.lit (.bool false)], args := [d1, d2] }
  | _ => none }
def FnExactUnifyTypesWrongFalsely : Prop := fnExactUnifyTypesRow.holds Try.pinned (OpenSpec.ofChange fnExactUnifyTypesWrong)

/-- 'laws.FnUnifyTypes': WHATEVER THE INPUT: true; the input reads as it did. -/
def fnUnifyTypesSpec : ChangeSpec := { name := "fnUnifyTypes", fn := fun _ => fun
  | [d] => { results := [.lit (.bool true)], args := [d] }
  | _ => none }
def fnUnifyTypesRow : OpenClaim := { program := "ytjhccdioainibaa", sum := "062b15c56fb413b3735c59263fa259b41912ccd50b15e5e4dbf4979e82143678", func := "loop.example/livetyper/laws.FnUnifyTypes", spec := "fnUnifyTypes", unfollowed := true, recurses := true, plainKeys := false, apart := false }
def FnUnifyTypesSaid : Prop := fnUnifyTypesRow.holds Try.pinned (OpenSpec.ofChange fnUnifyTypesSpec)

/-- ITS FALSE NEIGHBOUR: 'it returns false'. Refute it at one input. -/
def fnUnifyTypesWrong : ChangeSpec := { name := "fnUnifyTypes", fn := fun _ => fun
  | [d] => { results := [.lit (.bool false)], args := [d] }
  | _ => none }
def FnUnifyTypesWrongFalsely : Prop := fnUnifyTypesRow.holds Try.pinned (OpenSpec.ofChange fnUnifyTypesWrong)

/-- 'laws.FnUnifyGeneral': WHATEVER THE INPUT: true; the input reads as it did. -/
def fnUnifyGeneralSpec : ChangeSpec := { name := "fnUnifyGeneral", fn := fun _ => fun
  | [d1, d2] => { results := [.lit (.bool true)], args := [d1, d2] }
  | _ => none }
def fnUnifyGeneralRow : OpenClaim := { program := "ytjhccdioainibaa", sum := "062b15c56fb413b3735c59263fa259b41912ccd50b15e5e4dbf4979e82143678", func := "loop.example/livetyper/laws.FnUnifyGeneral", spec := "fnUnifyGeneral", unfollowed := true, recurses := true, plainKeys := false, apart := false }
def FnUnifyGeneralSaid : Prop := fnUnifyGeneralRow.holds Try.pinned (OpenSpec.ofChange fnUnifyGeneralSpec)

/-- ITS FALSE NEIGHBOUR: 'it returns false'. Refute it at one input. -/
def fnUnifyGeneralWrong : ChangeSpec := { name := "fnUnifyGeneral", fn := fun _ => fun
  | [d1, d2] => { results := [.lit (.bool false)], args := [d1, d2] }
  | _ => none }
def FnUnifyGeneralWrongFalsely : Prop := fnUnifyGeneralRow.holds Try.pinned (OpenSpec.ofChange fnUnifyGeneralWrong)

/-- 'laws.FnUnifySame': WHATEVER THE INPUT: true; the input reads as it did. -/
def fnUnifySameSpec : ChangeSpec := { name := "fnUnifySame", fn := fun _ => fun
  | [d] => { results := [.lit (.bool true)], args := [d] }
  | _ => none }
def fnUnifySameRow : OpenClaim := { program := "ytjhccdioainibaa", sum := "062b15c56fb413b3735c59263fa259b41912ccd50b15e5e4dbf4979e82143678", func := "loop.example/livetyper/laws.FnUnifySame", spec := "fnUnifySame", unfollowed := true, recurses := true, plainKeys := false, apart := false }
def FnUnifySameSaid : Prop := fnUnifySameRow.holds Try.pinned (OpenSpec.ofChange fnUnifySameSpec)

/-- ITS FALSE NEIGHBOUR: 'it returns false'. Refute it at one input. -/
def fnUnifySameWrong : ChangeSpec := { name := "fnUnifySame", fn := fun _ => fun
  | [d] => { results := [.lit (.bool false)], args := [d] }
  | _ => none }
def FnUnifySameWrongFalsely : Prop := fnUnifySameRow.holds Try.pinned (OpenSpec.ofChange fnUnifySameWrong)

/-- 'laws.FnUnifyCanon': WHATEVER THE INPUT: true; the input reads as it did. -/
def fnUnifyCanonSpec : ChangeSpec := { name := "fnUnifyCanon", fn := fun _ => fun
  | [d] => { results := [.lit (.bool true)], args := [d] }
  | _ => none }
def fnUnifyCanonRow : OpenClaim := { program := "ytjhccdioainibaa", sum := "062b15c56fb413b3735c59263fa259b41912ccd50b15e5e4dbf4979e82143678", func := "loop.example/livetyper/laws.FnUnifyCanon", spec := "fnUnifyCanon", unfollowed := true, recurses := true, plainKeys := false, apart := false }
def FnUnifyCanonSaid : Prop := fnUnifyCanonRow.holds Try.pinned (OpenSpec.ofChange fnUnifyCanonSpec)

/-- ITS FALSE NEIGHBOUR: 'it returns false'. Refute it at one input. -/
def fnUnifyCanonWrong : ChangeSpec := { name := "fnUnifyCanon", fn := fun _ => fun
  | [d] => { results := [.lit (.bool false)], args := [d] }
  | _ => none }
def FnUnifyCanonWrongFalsely : Prop := fnUnifyCanonRow.holds Try.pinned (OpenSpec.ofChange fnUnifyCanonWrong)

/- THE SECOND FORM. 'bulk': how many values and letters a reading holds, each counted each time it is reached (what is shared counts as often as it is met; a slice's spare places count too). A statement '..UptoSaid' is the law's where the arguments, and the package variables that the reading takes, are together of bulk at most 1048576: NARROWER than '..Said'. Prove '..Said' where nothing that the law and all that it calls make is longer than what came in: it says more and counts as full. Else prove '..UptoSaid'. A law counts once. -/
mutual
def uptoBulk {H : Type} : DataW H → Nat
  | .lit (.string bytes) => bytes.length + 1
  | .lit _ => 1
  | .nil => 1
  | .ptr d => uptoBulk d + 1
  | .slice elems spare => uptoBulkAll elems + uptoBulkAll spare + 1
  | .agg parts => uptoBulkAll parts + 1
  | .iface _ d => uptoBulk d + 1
  | .map entries => uptoBulkEntries entries + 1
  | .held _ => 1
def uptoBulkAll {H : Type} : List (DataW H) → Nat
  | [] => 0
  | d :: r => uptoBulk d + uptoBulkAll r
def uptoBulkEntries {H : Type} : List (Lit × DataW H) → Nat
  | [] => 0
  | x :: r => uptoBulkEntry x + uptoBulkEntries r
def uptoBulkEntry {H : Type} : Lit × DataW H → Nat
  | (.string bytes, d) => bytes.length + uptoBulk d + 1
  | (_, d) => uptoBulk d + 1
 end
def uptoSmall : (H : Type) → List (DataW H) → Bool := fun _ ds => decide (uptoBulkAll ds ≤ 1048576)
def OpenSpec.upto (s : _root_.Go.ChangeSpec) : _root_.Go.OpenSpec := { _root_.Go.OpenSpec.ofChange s with cond := some uptoSmall }

/-- 'laws.FnExactUnifyTypes', WHERE WHAT IT READS IS OF BULK AT MOST 1048576: true; the input reads as it did. -/
def fnExactUnifyTypesUptoRow : OpenClaim := { program := "ytjhccdioainibaa", sum := "062b15c56fb413b3735c59263fa259b41912ccd50b15e5e4dbf4979e82143678", func := "loop.example/livetyper/laws.FnExactUnifyTypes", spec := "fnExactUnifyTypes", unfollowed := true, recurses := true, loops := true, plainKeys := false, apart := false, narrowed := true }
def FnExactUnifyTypesUptoSaid : Prop := fnExactUnifyTypesUptoRow.holds Try.pinned (OpenSpec.upto fnExactUnifyTypesSpec)

/-- 'laws.FnUnifyTypes', WHERE WHAT IT READS IS OF BULK AT MOST 1048576: true; the input reads as it did. -/
def fnUnifyTypesUptoRow : OpenClaim := { program := "ytjhccdioainibaa", sum := "062b15c56fb413b3735c59263fa259b41912ccd50b15e5e4dbf4979e82143678", func := "loop.example/livetyper/laws.FnUnifyTypes", spec := "fnUnifyTypes", unfollowed := true, recurses := true, plainKeys := false, apart := false, narrowed := true }
def FnUnifyTypesUptoSaid : Prop := fnUnifyTypesUptoRow.holds Try.pinned (OpenSpec.upto fnUnifyTypesSpec)

/-- 'laws.FnUnifyGeneral', WHERE WHAT IT READS IS OF BULK AT MOST 1048576: true; the input reads as it did. -/
def fnUnifyGeneralUptoRow : OpenClaim := { program := "ytjhccdioainibaa", sum := "062b15c56fb413b3735c59263fa259b41912ccd50b15e5e4dbf4979e82143678", func := "loop.example/livetyper/laws.FnUnifyGeneral", spec := "fnUnifyGeneral", unfollowed := true, recurses := true, plainKeys := false, apart := false, narrowed := true }
def FnUnifyGeneralUptoSaid : Prop := fnUnifyGeneralUptoRow.holds Try.pinned (OpenSpec.upto fnUnifyGeneralSpec)

/-- 'laws.FnUnifySame', WHERE WHAT IT READS IS OF BULK AT MOST 1048576: true; the input reads as it did. -/
def fnUnifySameUptoRow : OpenClaim := { program := "ytjhccdioainibaa", sum := "062b15c56fb413b3735c59263fa259b41912ccd50b15e5e4dbf4979e82143678", func := "loop.example/livetyper/laws.FnUnifySame", spec := "fnUnifySame", unfollowed := true, recurses := true, plainKeys := false, apart := false, narrowed := true }
def FnUnifySameUptoSaid : Prop := fnUnifySameUptoRow.holds Try.pinned (OpenSpec.upto fnUnifySameSpec)

/-- 'laws.FnUnifyCanon', WHERE WHAT IT READS IS OF BULK AT MOST 1048576: true; the input reads as it did. -/
def fnUnifyCanonUptoRow : OpenClaim := { program := "ytjhccdioainibaa", sum := "062b15c56fb413b3735c59263fa259b41912ccd50b15e5e4dbf4979e82143678", func := "loop.example/livetyper/laws.FnUnifyCanon", spec := "fnUnifyCanon", unfollowed := true, recurses := true, plainKeys := false, apart := false, narrowed := true }
def FnUnifyCanonUptoSaid : Prop := fnUnifyCanonUptoRow.holds Try.pinned (OpenSpec.upto fnUnifyCanonSpec)

end Rows
end Go.Proofs.Ytjhccdioainibaa
