/-
  What the functions of package pack that take slices return, and the document's.
-/
import Derived.Test.YtgfpcamgebnfmaaPack
import Derived.Test.YtgfpcamgebnfmaaRefPack
namespace Go.Proofs.Ytgfpcamgebnfmaa.Pk
open Go.RowKit
set_option linter.unusedVariables false
set_option linter.unusedSimpArgs false

theorem ret_ib {a b : Int} {c : Bool} (h : a = b) : Ending.returned (.tuple #[.int .i64 a, .bool c]) = .returned (.tuple #[.int .i64 b, .bool c]) := by rw [h]

end Go.Proofs.Ytgfpcamgebnfmaa.Pk
