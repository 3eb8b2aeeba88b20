/-
  Layer 10: the chapter's example (of a package pool that does what it must); the document's row of all blocks.
-/
import Derived.Test.YtobgndjejagppaaPoolDo
namespace Go.Proofs.Ytobgndjejagppaa.Pk
open Go.RowKit
set_option linter.unusedVariables false
set_option linter.unusedSimpArgs false

end Go.Proofs.Ytobgndjejagppaa.Pk
