/-
  ExprValid of the model and of the program: whether an expression is valid; what was in memory stays.
-/
import Derived.Test.YtkekghdkbbjhpaaDoorOe
namespace Go.Proofs.YtkekghdkbbjhpaaDoor.Ox
open Go.Proofs.YtkekghdkbbjhpaaDoor
open Go.RowKit
set_option linter.unusedVariables false
set_option linter.unusedSimpArgs false

end Go.Proofs.YtkekghdkbbjhpaaDoor.Ox
