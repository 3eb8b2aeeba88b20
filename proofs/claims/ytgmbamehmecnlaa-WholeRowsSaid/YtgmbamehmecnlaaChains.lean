/-
  The document's chains: Of, Set, Stands; the law's own stands.
-/
import Derived.Test.YtgmbamehmecnlaaRefChain
import Derived.Test.YtgmbamehmecnlaaChainMath
import Derived.Test.YtgmbamehmecnlaaGroFn
import Derived.BigQuiet
namespace Go.Proofs.Ytgmbamehmecnlaa.Pk
open Go.RowKit
set_option linter.unusedVariables false
set_option linter.unusedSimpArgs false

theorem Drw.trans {a b c : World} (h : Drw a b) (k : Drw b c) : Drw a c := by
  obtain ⟨m, rfl⟩ := h; obtain ⟨m', rfl⟩ := k; exact ⟨m + m', World.drewN_drewN _ _ _⟩
/-- Blocks' numbers as numbers. -/
def ints (l : List Nat) : List Int := l.map (fun n : Nat => (n : Int))
theorem ints_length (l : List Nat) : (ints l).length = l.length := by simp [ints]
theorem ints_nth {l : List Nat} {i : Nat} (h : i < l.length) : nth (ints l) i = (l[i] : Int) := by unfold nth ints; simp [List.getD, h]
/-! ### The law's own look at registers and links -/
end Go.Proofs.Ytgmbamehmecnlaa.Pk
