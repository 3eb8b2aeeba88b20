/-
  Layer 10: the law's own looks at a block, and what it writes there.
-/
import Derived.Test.YtobgndjejagppaaPool
import Derived.Test.YtobgndjejagppaaRefTags
import Derived.Deep.RegionHeld3
import Derived.BigQuiet
namespace Go.Proofs.Ytobgndjejagppaa.Pk
open Go.RowKit
set_option linter.unusedVariables false
set_option linter.unusedSimpArgs false

end Go.Proofs.Ytobgndjejagppaa.Pk
