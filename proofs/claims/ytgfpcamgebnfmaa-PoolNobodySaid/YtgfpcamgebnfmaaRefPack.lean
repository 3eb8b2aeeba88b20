/-
  What the document's functions on pieces of words return, whatever they are given: the same as the program's.
-/
import Derived.Test.YtgfpcamgebnfmaaPack
namespace Go.Proofs.Ytgfpcamgebnfmaa.Pk
open Go.RowKit
set_option linter.unusedVariables false
set_option linter.unusedSimpArgs false

/-- 2 to the n, n no more than 32. -/
def pw32 (n : Int) : Int := pw (min n 32)
theorem pw32_le {n : Int} (h : n ≤ 32) : pw32 n = pw n := by unfold pw32; rw [show min n 32 = n by omega]
theorem pw32_bd (n : Int) : 1 ≤ pw32 n ∧ pw32 n ≤ 4294967296 := by
  unfold pw32
  have := pw_pos (min n 32)
  have := pw_le32 (n := min n 32) (by omega)
  omega

end Go.Proofs.Ytgfpcamgebnfmaa.Pk
