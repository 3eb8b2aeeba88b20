/-
  The document's Same: rows of words that are alike.
-/
import Derived.Test.YticlidpdmonijaaProg
import Derived.Test.YticlidpdmonijaaMem
import Derived.IntWalk
namespace Go.Proofs.Yticlidpdmonijaa.Pk
open Go.RowKit
set_option linter.unusedVariables false
set_option linter.unusedSimpArgs false

end Go.Proofs.Yticlidpdmonijaa.Pk
