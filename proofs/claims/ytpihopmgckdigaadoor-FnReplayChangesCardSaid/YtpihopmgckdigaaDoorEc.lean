/-
  A type that came in as an argument lies in memory as a tree: from the reading of the argument to the tree. For every type that can be read.
-/
import Derived.Test.YtpihopmgckdigaaDoorProg
import Derived.Test.YtpihopmgckdigaaDoorYc
import Derived.Test.YtpihopmgckdigaaDoorEa
import Derived.Deep.Slices
import Derived.Lib.SmallJoins
import Derived.ProofKit
namespace Go.Proofs.YtpihopmgckdigaaDoor.Ox
open Go.Proofs.YtpihopmgckdigaaDoor
open Go.RowKit

instance : Inhabited Ex := ⟨Ex.dummy⟩
theorem cellsStr : Tryd.prog.cellsOf 9 = 1 := by kernel_rfl
/-- How much a size takes off for an expression: its texts' bytes, and its operands, each with what it takes off. -/
inductive Cnt : Ex → Nat → Prop where
  | node (k n : Int) (m s : ByteArray) (ks : List Ex) (c : Nat → Nat) (hm : m.size ≤ maxLen) (hs : s.size ≤ maxLen) (h : ∀ i, i < ks.length → Cnt (ks.getD i Ex.dummy) (c i)) : Cnt (.node k n m s ks) (m.size + s.size + (ks.length + ((List.range ks.length).map c).sum))
end Go.Proofs.YtpihopmgckdigaaDoor.Ox
