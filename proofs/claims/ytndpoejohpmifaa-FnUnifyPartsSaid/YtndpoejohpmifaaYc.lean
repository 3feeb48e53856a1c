/-
  A type that came in as an argument lies in memory as a tree: from the reading of the argument to the tree. For every type that can be read.
-/
import Derived.Test.YtndpoejohpmifaaProg
import Derived.Test.YtndpoejohpmifaaYa
import Derived.Deep.Slices
import Derived.Lib.SmallJoins
import Derived.ProofKit
namespace Go.Proofs.Ytndpoejohpmifaa
open Go.RowKit

instance : Inhabited Ty := ⟨Ty.dummy⟩
theorem addr_add (b o n m : Nat) : ((⟨b, o, none⟩ : Addr).add n).add m = ⟨b, o + n + m, none⟩ := by
  unfold Addr.add
  by_cases hn : n = 0
  · by_cases hm : m = 0
    · subst hn; subst hm; rfl
    · subst hn; simp [hm]
  · by_cases hm : m = 0
    · subst hm; simp [hn]
    · simp [hn, hm]
theorem cellsInt : Try.prog.cellsOf 3 = 1 := by kernel_rfl
end Go.Proofs.Ytndpoejohpmifaa
