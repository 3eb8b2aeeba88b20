/-
  What Join returns: the program's, and the document's.
-/
import Derived.Test.YtgfpcamgebnfmaaPackTab
namespace Go.Proofs.Ytgfpcamgebnfmaa.Pk
open Go.RowKit
set_option linter.unusedVariables false
set_option linter.unusedSimpArgs false

theorem neq_len {m n : Nat} (h : m ≠ n) : ((m : Int) != (n : Int)) = true := by rw [bne_iff_ne]; omega
theorem eq_len {m n : Nat} (h : m = n) : ((m : Int) != (n : Int)) = false := by subst h; simp

/-! ### The document's -/
end Go.Proofs.Ytgfpcamgebnfmaa.Pk
