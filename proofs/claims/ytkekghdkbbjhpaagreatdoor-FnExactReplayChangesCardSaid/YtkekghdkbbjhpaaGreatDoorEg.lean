/-
  The exact laws' comparison of two types: it returns true for the same type; what was in memory stays.
-/
import Derived.Test.YtkekghdkbbjhpaaGreatDoorProg
import Derived.Test.YtkekghdkbbjhpaaGreatDoorZg
import Derived.Test.YtkekghdkbbjhpaaGreatDoorEd
import Derived.Deep.Slices
import Derived.BigQuiet
import Derived.Deep.RegionHeld3
import Derived.Deep.DeepCutAuto
namespace Go.Proofs.YtkekghdkbbjhpaaGreatDoor.Ox
open Go.Proofs.YtkekghdkbbjhpaaGreatDoor
open Go.RowKit

end Go.Proofs.YtkekghdkbbjhpaaGreatDoor.Ox
