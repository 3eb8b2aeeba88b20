/-
  The document's ground.
-/
import Derived.Test.YtgfpcamgebnfmaaGroFn
import Derived.Deep.RegionHeld3
namespace Go.Proofs.Ytgfpcamgebnfmaa.Pk
open Go.RowKit
set_option linter.unusedVariables false
set_option linter.unusedSimpArgs false

/-- A place's number; -1: there is none. -/
def atI (k : Option Nat) : Int := match k with | some k => (k : Int) | none => -1
theorem atI_some {o : Option Nat} {k : Nat} (h : o = some k) : atI o = (k : Int) := by rw [h]; rfl
theorem atI_none {o : Option Nat} (h : o = none) : atI o = -1 := by rw [h]; rfl

end Go.Proofs.Ytgfpcamgebnfmaa.Pk
