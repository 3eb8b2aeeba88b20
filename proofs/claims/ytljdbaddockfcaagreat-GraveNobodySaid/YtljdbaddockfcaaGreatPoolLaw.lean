/-
  Layer 10: the law's own looks at a block, and what it writes there.
-/
import Derived.Test.YtljdbaddockfcaaGreatPool
import Derived.Test.YtljdbaddockfcaaGreatRefTags
import Derived.Deep.RegionHeld3
import Derived.BigQuiet
namespace Go.Proofs.YtljdbaddockfcaaGreat.Pk
open Go.RowKit
set_option linter.unusedVariables false
set_option linter.unusedSimpArgs false

end Go.Proofs.YtljdbaddockfcaaGreat.Pk
