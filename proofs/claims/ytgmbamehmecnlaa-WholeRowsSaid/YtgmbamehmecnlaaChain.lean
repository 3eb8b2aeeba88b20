/-
  What the functions of package chain must return for the laws (a bundle; ChainOk proves it of the landed code).
-/
import Derived.Test.YtgmbamehmecnlaaChains
namespace Go.Proofs.Ytgmbamehmecnlaa.Pk
open Go.RowKit
set_option linter.unusedVariables false

/-- No chain, or an empty one. -/
def NoTake (c : Cf) (zs : List Int) (k : Int) : Prop := ¬ (k = 0 ∨ k = 1) ∨ ∃ j : Nat, k = (j : Int) ∧ j < 2 ∧ ChainAt c zs j []

/-- A new row of blocks' numbers. -/
def NewInts (w : World) (l : List Nat) (e : Ending) (w' : World) : Prop :=
  ∃ a cap, e = .returned (.slice a l.length cap) ∧ Row w' .i64 a (ints l) ∧ (∀ b off, a = some ⟨b, off, none⟩ → w.heap.size ≤ b) ∧ Below w.heap.size w w'
theorem NewRow.ints {w w' : World} {l : List Nat} {zs : List Int} {e : Ending} (h : NewRow w zs e w') (hz : zs = Pk.ints l) : NewInts w l e w' := by
  subst hz
  obtain ⟨a, cap, h1, h2, h3, h4⟩ := h
  rw [ints_length] at h1
  exact ⟨a, cap, h1, h2, h3, h4⟩

end Go.Proofs.Ytgmbamehmecnlaa.Pk
