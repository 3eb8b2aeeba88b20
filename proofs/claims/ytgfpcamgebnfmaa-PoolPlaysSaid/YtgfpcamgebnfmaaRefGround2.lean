/-
  The document's ground: whole blocks, new ones; small configurations; the chapter's example.
-/
import Derived.Test.YtgfpcamgebnfmaaRefGround
import Derived.Test.YtgfpcamgebnfmaaRefPlan
import Derived.Test.YtgfpcamgebnfmaaBase
namespace Go.Proofs.Ytgfpcamgebnfmaa.Pk
open Go.RowKit
set_option linter.unusedVariables false
set_option linter.unusedSimpArgs false

theorem wordA_row {c : Cf} {b : Int} {f : Nat} (h : wordA c b 0 = some f) {k : Nat} (hk : k < c.W) : wordA c b (k : Int) = some (f + k) := by
  unfold wordA at h ⊢
  cases hb : bel b c.N with
  | false => rw [hb] at h; cases h
  | true =>
    rw [hb, show bel (0 : Int) c.W = true from bel_mk (k := 0) (by omega)] at h
    rw [bel_mk hk]
    cases h
    simp
theorem wordA_zero {c : Cf} (hm : c.May) {b : Int} (h : wordA c b 0 = none) : bel b c.N = false := by
  have := hm.w
  cases hb : bel b c.N with
  | false => rfl
  | true => rw [wordA, hb, show bel (0 : Int) c.W = true from bel_mk (k := 0) (by omega)] at h; cases h
theorem wordA_bel {c : Cf} {b v : Int} {f : Nat} (h : wordA c b v = some f) : bel b c.N = true := by
  cases hb : bel b c.N with
  | true => rfl
  | false => rw [wordA, hb] at h; cases h

def littleB (n v r : Int) : Bool := decide (n ≤ 300 ∧ v ≤ 64 ∧ r ≤ 40)
theorem little_any (n v r k : Int) (w : World) : Calls Try.prog 8 #[.agg #[.int .i64 n, .int .i64 v, .int .i64 r, .int .i64 k]] w fun e w' => e = .returned (.bool (littleB n v r)) ∧ Below w.heap.size w w' := by
  by_cases h0 : n ≤ 300
  · by_cases h1 : v ≤ 64
    · go_enter Try.func8, Try.ntmps8
      go_wp2
      go_ret
      exact ⟨ret_bool (by unfold littleB; simp [h0, h1]), below_new w _⟩
    · have h1' : 64 < v := by omega
      go_enter Try.func8, Try.ntmps8
      go_wp2
      go_ret
      exact ⟨ret_bool (by unfold littleB; simp [h1]; try omega), below_new w _⟩
  · have h0' : 300 < n := by omega
    go_enter Try.func8, Try.ntmps8
    go_wp2
    go_ret
    exact ⟨ret_bool (by unfold littleB; simp [h0]; try omega), below_new w _⟩

end Go.Proofs.Ytgfpcamgebnfmaa.Pk
