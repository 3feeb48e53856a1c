/-
  What the exact laws' size of a type returns: what is left of a number when every node below the root is taken away, or -1; what was in memory stays.
-/
import Derived.Test.YtpaefcdchaemfaaProg
import Derived.Test.YtpaefcdchaemfaaYd
import Derived.Test.YtpaefcdchaemfaaEc
import Derived.Deep.Slices
namespace Go.Proofs.Ytpaefcdchaemfaa.Ox
open Go.Proofs.Ytpaefcdchaemfaa
open Go.RowKit

end Go.Proofs.Ytpaefcdchaemfaa.Ox
