/-
  The exact laws' comparison of two types: it returns true for the same type; what was in memory stays.
-/
import Derived.Test.YtkekghdkbbjhpaaDoorProg
import Derived.Test.YtkekghdkbbjhpaaDoorZg
import Derived.Test.YtkekghdkbbjhpaaDoorEd
import Derived.Deep.Slices
import Derived.BigQuiet
import Derived.Deep.RegionHeld3
import Derived.Deep.DeepCutAuto
namespace Go.Proofs.YtkekghdkbbjhpaaDoor.Ox
open Go.Proofs.YtkekghdkbbjhpaaDoor
open Go.RowKit

end Go.Proofs.YtkekghdkbbjhpaaDoor.Ox
