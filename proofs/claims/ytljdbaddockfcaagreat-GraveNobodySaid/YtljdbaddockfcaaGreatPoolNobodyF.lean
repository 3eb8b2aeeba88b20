/-
  Layer 10: a nil ground has no pool, an open one is not opened again (from the bundles).
-/
import Derived.Test.YtljdbaddockfcaaGreatPoolBegun
namespace Go.Proofs.YtljdbaddockfcaaGreat.Pk
open Go.RowKit
set_option linter.unusedVariables false
set_option linter.unusedSimpArgs false

/-- What package pool returns of a nil ground (a bundle). -/
structure PoolNil : Prop where
  take : ∀ (w : World), Calls Tryz.prog 162 #[.pointer none] w fun e w' => e = .returned (.tuple #[.int .i64 0, .bool false]) ∧ Below w.heap.size w w'
  open_ : ∀ (w : World), Calls Tryz.prog 71 #[.pointer none] w fun e w' => e = .returned (.bool false) ∧ Below w.heap.size w w'
  give : ∀ (b : Int) (w : World), Calls Tryz.prog 166 #[.pointer none, .int .i64 b] w fun e w' => e = .returned (.bool false) ∧ Below w.heap.size w w'
  len : ∀ (w : World), Calls Tryz.prog 20 #[.pointer none] w fun e w' => e = .returned (.int .i64 0) ∧ Below w.heap.size w w'
  list : ∀ (w : World), Calls Tryz.prog 87 #[.pointer none] w fun e w' => ∃ a cap, e = .returned (.slice a 0 cap) ∧ Below w.heap.size w w'
theorem opened_nogive {c : Cf} {zs : List Int} (h : Opened c zs) (b : Int) : NoGive c zs b := by
  by_cases hb : 0 ≤ b ∧ b < (c.N : Int)
  · obtain ⟨k, rfl⟩ := Int.eq_ofNat_of_zero_le hb.1
    have hk : k < c.N := by omega
    exact .inr ⟨k, rfl, hk, by rw [h.1.fr k (List.mem_range.2 hk)]; decide⟩
  · exact .inl hb
end Go.Proofs.YtljdbaddockfcaaGreat.Pk
