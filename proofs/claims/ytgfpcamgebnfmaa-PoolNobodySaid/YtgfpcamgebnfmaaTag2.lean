/-
  The program's tags: are they right, their words, what words say, names.
-/
import Derived.Test.YtgfpcamgebnfmaaTag
namespace Go.Proofs.Ytgfpcamgebnfmaa.Pk
open Go.RowKit
set_option linter.unusedVariables false
set_option linter.unusedSimpArgs false

theorem below_touch {a w w' : World} {b : Nat} (h : Below a.heap.size a w) (t : Touch (fun i => i = b) w w') (hb : a.heap.size ≤ b) : Below a.heap.size a w' :=
  h.trans (t.below (fun i hi => by have : i = b := hi; omega) h.size)

end Go.Proofs.Ytgfpcamgebnfmaa.Pk
