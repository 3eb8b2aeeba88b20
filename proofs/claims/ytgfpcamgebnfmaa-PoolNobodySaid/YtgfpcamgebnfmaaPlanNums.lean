/-
  plan.Of with its numbers; plan.Pause; the document's May and Pause; the chapter's example.
-/
import Derived.Test.YtgfpcamgebnfmaaPlanOf
namespace Go.Proofs.Ytgfpcamgebnfmaa.Pk
open Go.RowKit
set_option linter.unusedVariables false
set_option linter.unusedSimpArgs false

/-- What plan.Of returns of a configuration that may be. -/
def numsV (N W R K : Int) : Value := .agg #[.int .i64 (wordsI N W R), .int .i64 (W - 8), .int .i64 (W - 7), .int .i64 (fieldsI W), .int .i64 (epochI N W), .int .i64 (drainI N W), .int .i64 (lagI N W K), .int .i64 (settleI N W K)]

theorem of_yes (N W R K : Int) (w : World) (h : May N W R K) :
    Calls Try.prog 19 #[.agg #[.int .i64 N, .int .i64 W, .int .i64 R, .int .i64 K]] w fun e w' => e = .returned (.tuple #[numsV N W R K, .int .i64 0]) ∧ Below w.heap.size w w' := by
  have n0 := h.n0; have n1 := h.n1; have w0 := h.w0; have w1 := h.w1; have r0 := h.r0; have r1 := h.r1; have k0 := h.k0; have k1 := h.k1
  have hnw := nw_bd h
  have hd := drain_bd h
  have he := epoch_bd h
  have hf := fields_bd w0 w1
  have hu := upP_bd (a := epochI N W) (b := K) (by omega) k0
  have hv := upP_bd (a := 2 * epochI N W + drainI N W) (b := K) (by omega) k0
  have m2 : ∀ x : Int, 0 ≤ x → x ≤ 100000000 → mulL [2, x] = 2 * x := fun x h0 h1 => mul2_id (by omega) h0 (by omega) (by omega) (by omega)
  exact of_walk N W R K (W + 1) (drainI N W) (3 * drainI N W) (epochI N W) (N * W) (wordsI N W R) (fieldsI W) (upP (epochI N W) K) (2 * upP (epochI N W) K) (2 * (W - 7)) (lagI N W K) (2 * epochI N W) (2 * epochI N W + drainI N W) (upP (2 * epochI N W + drainI N W) K) (settleI N W K) w (Lib.hid h) w0 w1
    (Lib.hid (by rw [add2_id (by omega) (by omega) (by omega)]; omega)) (Lib.hid (add2_id (by omega) (by omega) (by omega))) (Lib.hid (mul2_id (by omega) (by omega) (by omega) (by omega) (by have : N * (W + 1) = drainI N W := rfl; omega)))
    (Lib.hid (mul2_id (by omega) (by omega) (by omega) (by omega) (by omega))) (Lib.hid (add2_id (by omega) (by omega) (by omega))) (Lib.hid (mul2_id (by omega) (by omega) (by omega) (by omega) (by omega)))
    (Lib.hid (add3_id (by omega) (by omega) (by omega) (by omega))) (Lib.hid (mul2_id (by omega) (by omega) (by omega) (by omega) (by have : (W - 8) * (W - 1) = fieldsI W := rfl; omega)))
    (Lib.hid (up_id (by omega) (by omega) k0 (by omega))) (Lib.hid (m2 _ (by omega) (by omega))) (Lib.hid (m2 _ (by omega) (by omega))) (Lib.hid (add2_id (by omega) (by omega) (by omega))) (Lib.hid (m2 _ (by omega) (by omega))) (Lib.hid (add2_id (by omega) (by omega) (by omega)))
    (Lib.hid (up_id (by omega) (by omega) k0 (by omega))) (Lib.hid (add2_id (by omega) (by omega) (by omega)))

theorem ofV {N W R K : Int} {v : Value} (w : World) (h : May N W R K) (hv : numsV N W R K = v) :
    Calls Try.prog 19 #[.agg #[.int .i64 N, .int .i64 W, .int .i64 R, .int .i64 K]] w fun e w' => e = .returned (.tuple #[v, .int .i64 0]) ∧ Below w.heap.size w w' := hv ▸ of_yes N W R K w h

theorem may_ex : May 100 16 4 2000 := by constructor <;> decide
theorem nums_ex : numsV 100 16 4 2000 = .agg #[.int .i64 1628, .int .i64 8, .int .i64 9, .int .i64 120, .int .i64 5104, .int .i64 1700, .int .i64 24, .int .i64 8] := by kernel_rfl

end Go.Proofs.Ytgfpcamgebnfmaa.Pk
