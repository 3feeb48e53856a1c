/-
  What InvertEdit returns, in the program and in the model: for every text of at most maxLen bytes and every edit; what was in memory stays.
-/
import Derived.Test.YtnnjnkeabljlaaaProg
import Derived.Test.YtnnjnkeabljlaaaTd
import Derived.RegionTactic
import Derived.ChangeAlike
namespace Go.Proofs.Ytnnjnkeabljlaaa
open Go.RowKit

theorem below_set3 {B : Nat} {a w : World} (h : Below B a w) {b o1 o2 o3 : Nat} {x y z : Value} (hp : B ≤ b) : Below B a (((w.setCell ⟨b, o1, none⟩ x).setCell ⟨b, o2, none⟩ y).setCell ⟨b, o3, none⟩ z) :=
  ((h.setCell (p := ⟨b, o1, none⟩) hp x).setCell (p := ⟨b, o2, none⟩) hp y).setCell (p := ⟨b, o3, none⟩) hp z

end Go.Proofs.Ytnnjnkeabljlaaa
