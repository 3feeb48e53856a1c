/-
  What the exact laws' size of a type returns: what is left of a number when every node below the root is taken away, or -1; what was in memory stays.
-/
import Derived.Test.YtkekghdkbbjhpaaGreatDoorProg
import Derived.Test.YtkekghdkbbjhpaaGreatDoorYd
import Derived.Test.YtkekghdkbbjhpaaGreatDoorEc
import Derived.Deep.Slices
namespace Go.Proofs.YtkekghdkbbjhpaaGreatDoor.Ox
open Go.Proofs.YtkekghdkbbjhpaaGreatDoor
open Go.RowKit

end Go.Proofs.YtkekghdkbbjhpaaGreatDoor.Ox
