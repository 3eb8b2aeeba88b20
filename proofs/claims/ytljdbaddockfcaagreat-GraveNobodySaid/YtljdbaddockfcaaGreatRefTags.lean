/-
  RefTag: The document's tags: each function's contract, whatever it is given; and the kinds' names.
  RefTag2: The document's Right, whatever it is given.
-/
import Derived.Test.YtljdbaddockfcaaGreatTagMath
import Derived.Test.YtljdbaddockfcaaGreatBase

namespace Go.Proofs.YtljdbaddockfcaaGreat.Pk
open Go.RowKit
set_option linter.unusedVariables false
set_option linter.unusedSimpArgs false

def bitB (n : Int) : Bool := inB n 2
theorem beq_no {a b : Int} (h : ¬ a = b) : (a == b) = false := by rw [beq_eq_false_iff_ne]; exact h
theorem bitB_0 : bitB 0 = true := by decide
theorem bitB_1 : bitB 1 = true := by decide
theorem bitB_no {n : Int} (h0 : ¬ n = 0) (h1 : ¬ n = 1) : bitB n = false := inB_mk' (by omega)
/-- The kinds' names. -/
def nmS (k : Int) : ByteArray := if k = 0 then ⟨#[102, 114, 101, 101]⟩ else if k = 1 then ⟨#[115, 109, 97, 108, 108]⟩ else if k = 2 then ⟨#[115, 112, 105, 110, 101]⟩ else if k = 3 then ⟨#[108, 101, 97, 102]⟩ else ⟨#[]⟩
theorem nmS_0 : nmS 0 = ⟨#[102, 114, 101, 101]⟩ := rfl
theorem nmS_1 : nmS 1 = ⟨#[115, 109, 97, 108, 108]⟩ := rfl
theorem nmS_2 : nmS 2 = ⟨#[115, 112, 105, 110, 101]⟩ := rfl
theorem nmS_3 : nmS 3 = ⟨#[108, 101, 97, 102]⟩ := rfl
theorem nmS_no {k : Int} (h0 : ¬ k = 0) (h1 : ¬ k = 1) (h2 : ¬ k = 2) (h3 : ¬ k = 3) : nmS k = ⟨#[]⟩ := by unfold nmS; rw [if_neg h0, if_neg h1, if_neg h2, if_neg h3]
theorem ret_str {a b : ByteArray} (h : a = b) : Ending.returned (.string a) = .returned (.string b) := by rw [h]

end Go.Proofs.YtljdbaddockfcaaGreat.Pk

namespace Go.Proofs.YtljdbaddockfcaaGreat.Pk
open Go.RowKit
set_option linter.unusedVariables false
set_option linter.unusedSimpArgs false

end Go.Proofs.YtljdbaddockfcaaGreat.Pk
