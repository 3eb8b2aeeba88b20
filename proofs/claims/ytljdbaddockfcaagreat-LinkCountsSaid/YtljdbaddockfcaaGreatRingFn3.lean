/-
  What the functions of package ring return: List; the bundles.
-/
import Derived.Test.YtljdbaddockfcaaGreatRingFn2
import Derived.Test.YtljdbaddockfcaaGreatRingDo
import Derived.Deep.RegionHeld3
import Derived.BigQuiet
import Derived.Test.YtljdbaddockfcaaGreatGroFnEtc
import Derived.OwnWalk
import Derived.Laws.OwnMore
namespace Go.Proofs.YtljdbaddockfcaaGreat.Pk
open Go.RowKit
set_option linter.unusedVariables false
set_option linter.unusedSimpArgs false

theorem Gath.slice {w wr : World} {v : Value} {k : Nat} {zs : List Int} (h : Gath w v k zs wr) : ∃ a cap, v = .slice a k cap := by
  rcases h.1.2 with ⟨rfl, rfl⟩ | ⟨g, cap, cur, rfl, _⟩
  · exact ⟨none, 0, rfl⟩
  · exact ⟨_, cap, rfl⟩
/-! ### Of a nil ground -/
end Go.Proofs.YtljdbaddockfcaaGreat.Pk
