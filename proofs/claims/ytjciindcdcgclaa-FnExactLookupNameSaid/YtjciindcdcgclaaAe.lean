/-
  l2Subst of the model.
-/
import Derived.Test.YtjciindcdcgclaaAd
namespace Go.Proofs.Ytjciindcdcgclaa
open Go.RowKit
set_option linter.unusedVariables false
set_option linter.unusedSimpArgs false

end Go.Proofs.Ytjciindcdcgclaa
