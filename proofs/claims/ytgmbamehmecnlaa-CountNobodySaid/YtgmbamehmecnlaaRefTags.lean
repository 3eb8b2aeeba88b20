/-
  RefTag: The document's tags: each function's contract, whatever it is given; and the kinds' names.
  RefTag2: The document's Right, whatever it is given.
-/
import Derived.Test.YtgmbamehmecnlaaTagMath
import Derived.Test.YtgmbamehmecnlaaBase

namespace Go.Proofs.Ytgmbamehmecnlaa.Pk
open Go.RowKit
set_option linter.unusedVariables false
set_option linter.unusedSimpArgs false

def bitB (n : Int) : Bool := inB n 2
theorem beq_no {a b : Int} (h : ¬ a = b) : (a == b) = false := by rw [beq_eq_false_iff_ne]; exact h
theorem bitB_0 : bitB 0 = true := by decide
theorem bitB_1 : bitB 1 = true := by decide
theorem bitB_no {n : Int} (h0 : ¬ n = 0) (h1 : ¬ n = 1) : bitB n = false := inB_mk' (by omega)
theorem refPackT_any (k c n s d g o : Int) (w : World) (hr : RightT k c n s d g o) :
    Calls Try.prog 98 #[.agg #[.int .i64 k, .int .i64 c, .int .i64 n, .int .i64 s, .int .i64 d, .int .i64 g, .int .i64 o]] w fun e w' => e = .returned (.int .u32 (packI k c n s d g o)) ∧ Below w.heap.size w w' := by
  obtain ⟨⟨k0, k1⟩, ⟨o0, o1⟩, _, ⟨c0, c1⟩, ⟨n0, n1⟩, ⟨s0, s1⟩, ⟨d0, d1⟩, ⟨g0, g1⟩, _⟩ := hr
  go_enter Try.func98, Try.ntmps98
  go_wp2_with fail
  go_ret
  refine ⟨ret_int ?_, below_new w _⟩
  unfold packI
  omega

/-- The kinds' names. -/
def nmS (k : Int) : ByteArray := if k = 0 then ⟨#[102, 114, 101, 101]⟩ else if k = 1 then ⟨#[115, 109, 97, 108, 108]⟩ else if k = 2 then ⟨#[115, 112, 105, 110, 101]⟩ else if k = 3 then ⟨#[108, 101, 97, 102]⟩ else ⟨#[]⟩
theorem nmS_0 : nmS 0 = ⟨#[102, 114, 101, 101]⟩ := rfl
theorem nmS_1 : nmS 1 = ⟨#[115, 109, 97, 108, 108]⟩ := rfl
theorem nmS_2 : nmS 2 = ⟨#[115, 112, 105, 110, 101]⟩ := rfl
theorem nmS_3 : nmS 3 = ⟨#[108, 101, 97, 102]⟩ := rfl
theorem nmS_no {k : Int} (h0 : ¬ k = 0) (h1 : ¬ k = 1) (h2 : ¬ k = 2) (h3 : ¬ k = 3) : nmS k = ⟨#[]⟩ := by unfold nmS; rw [if_neg h0, if_neg h1, if_neg h2, if_neg h3]
theorem ret_str {a b : ByteArray} (h : a = b) : Ending.returned (.string a) = .returned (.string b) := by rw [h]

end Go.Proofs.Ytgmbamehmecnlaa.Pk

namespace Go.Proofs.Ytgmbamehmecnlaa.Pk
open Go.RowKit
set_option linter.unusedVariables false
set_option linter.unusedSimpArgs false

end Go.Proofs.Ytgmbamehmecnlaa.Pk
