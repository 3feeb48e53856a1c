/-
  What the exact laws' size of a type returns: what is left of a number when every node below the root is taken away, or -1; what was in memory stays.
-/
import Derived.Test.YtkekghdkbbjhpaaDoorProg
import Derived.Test.YtkekghdkbbjhpaaDoorYd
import Derived.Test.YtkekghdkbbjhpaaDoorEc
import Derived.Deep.Slices
namespace Go.Proofs.YtkekghdkbbjhpaaDoor.Ox
open Go.Proofs.YtkekghdkbbjhpaaDoor
open Go.RowKit

end Go.Proofs.YtkekghdkbbjhpaaDoor.Ox
