/-
  The document's May and Pause.
-/
import Derived.Test.YtgfpcamgebnfmaaPlanFn
namespace Go.Proofs.Ytgfpcamgebnfmaa.Pk
open Go.RowKit
set_option linter.unusedVariables false
set_option linter.unusedSimpArgs false

set_option maxRecDepth 100000 in
set_option maxHeartbeats 1000000 in
theorem refMay_yes (N W R K : Int) (w : World) (h : May N W R K) :
    Calls Try.prog 7 #[.agg #[.int .i64 N, .int .i64 W, .int .i64 R, .int .i64 K]] w fun e w' => e = .returned (.bool true) ∧ Below w.heap.size w w' := by
  obtain ⟨n0, n1, w0, w1, r0, r1, k0, k1, nw⟩ := h
  have hm := mul_le_of (a := N) (b := W) (by omega) (by omega) n1 w1
  go_enter Try.func7, Try.ntmps7
  go_wp2
  go_ret
  exact ⟨ret_bool (by first | (simp; done) | (simp; omega)), below_new _ _⟩

set_option maxRecDepth 100000 in
set_option maxHeartbeats 1000000 in
theorem refMay_no0 (N W R K : Int) (w : World) (hx : N < 1) :
    Calls Try.prog 7 #[.agg #[.int .i64 N, .int .i64 W, .int .i64 R, .int .i64 K]] w fun e w' => e = .returned (.bool false) ∧ Below w.heap.size w w' := by
  go_enter Try.func7, Try.ntmps7
  go_wp2
  go_ret
  exact ⟨rfl, below_new _ _⟩

set_option maxRecDepth 100000 in
set_option maxHeartbeats 1000000 in
theorem refMay_no1 (N W R K : Int) (w : World) (n0 : 1 ≤ N) (hx : 1048576 < N) :
    Calls Try.prog 7 #[.agg #[.int .i64 N, .int .i64 W, .int .i64 R, .int .i64 K]] w fun e w' => e = .returned (.bool false) ∧ Below w.heap.size w w' := by
  go_enter Try.func7, Try.ntmps7
  go_wp2
  go_ret
  exact ⟨rfl, below_new _ _⟩

set_option maxRecDepth 100000 in
set_option maxHeartbeats 1000000 in
theorem refMay_no2 (N W R K : Int) (w : World) (n0 : 1 ≤ N) (n1 : N ≤ 1048576) (hx : W < 16) :
    Calls Try.prog 7 #[.agg #[.int .i64 N, .int .i64 W, .int .i64 R, .int .i64 K]] w fun e w' => e = .returned (.bool false) ∧ Below w.heap.size w w' := by
  go_enter Try.func7, Try.ntmps7
  go_wp2
  go_ret
  exact ⟨rfl, below_new _ _⟩

set_option maxRecDepth 100000 in
set_option maxHeartbeats 1000000 in
theorem refMay_no3 (N W R K : Int) (w : World) (n0 : 1 ≤ N) (n1 : N ≤ 1048576) (w0 : 16 ≤ W) (hx : 256 < W) :
    Calls Try.prog 7 #[.agg #[.int .i64 N, .int .i64 W, .int .i64 R, .int .i64 K]] w fun e w' => e = .returned (.bool false) ∧ Below w.heap.size w w' := by
  go_enter Try.func7, Try.ntmps7
  go_wp2
  go_ret
  exact ⟨rfl, below_new _ _⟩

set_option maxRecDepth 100000 in
set_option maxHeartbeats 1000000 in
theorem refMay_no4 (N W R K : Int) (w : World) (n0 : 1 ≤ N) (n1 : N ≤ 1048576) (w0 : 16 ≤ W) (w1 : W ≤ 256) (hx : R < 1) :
    Calls Try.prog 7 #[.agg #[.int .i64 N, .int .i64 W, .int .i64 R, .int .i64 K]] w fun e w' => e = .returned (.bool false) ∧ Below w.heap.size w w' := by
  go_enter Try.func7, Try.ntmps7
  go_wp2
  go_ret
  exact ⟨rfl, below_new _ _⟩

set_option maxRecDepth 100000 in
set_option maxHeartbeats 1000000 in
theorem refMay_no5 (N W R K : Int) (w : World) (n0 : 1 ≤ N) (n1 : N ≤ 1048576) (w0 : 16 ≤ W) (w1 : W ≤ 256) (r0 : 1 ≤ R) (hx : 4096 < R) :
    Calls Try.prog 7 #[.agg #[.int .i64 N, .int .i64 W, .int .i64 R, .int .i64 K]] w fun e w' => e = .returned (.bool false) ∧ Below w.heap.size w w' := by
  go_enter Try.func7, Try.ntmps7
  go_wp2
  go_ret
  exact ⟨rfl, below_new _ _⟩

set_option maxRecDepth 100000 in
set_option maxHeartbeats 1000000 in
theorem refMay_no6 (N W R K : Int) (w : World) (n0 : 1 ≤ N) (n1 : N ≤ 1048576) (w0 : 16 ≤ W) (w1 : W ≤ 256) (r0 : 1 ≤ R) (r1 : R ≤ 4096) (hx : K < 1) :
    Calls Try.prog 7 #[.agg #[.int .i64 N, .int .i64 W, .int .i64 R, .int .i64 K]] w fun e w' => e = .returned (.bool false) ∧ Below w.heap.size w w' := by
  go_enter Try.func7, Try.ntmps7
  go_wp2
  go_ret
  exact ⟨rfl, below_new _ _⟩

set_option maxRecDepth 100000 in
set_option maxHeartbeats 1000000 in
theorem refMay_no7 (N W R K : Int) (w : World) (n0 : 1 ≤ N) (n1 : N ≤ 1048576) (w0 : 16 ≤ W) (w1 : W ≤ 256) (r0 : 1 ≤ R) (r1 : R ≤ 4096) (k0 : 1 ≤ K) (hx : 65536 < K) :
    Calls Try.prog 7 #[.agg #[.int .i64 N, .int .i64 W, .int .i64 R, .int .i64 K]] w fun e w' => e = .returned (.bool false) ∧ Below w.heap.size w w' := by
  go_enter Try.func7, Try.ntmps7
  go_wp2
  go_ret
  exact ⟨rfl, below_new _ _⟩

set_option maxRecDepth 100000 in
set_option maxHeartbeats 1000000 in
theorem refMay_no8 (N W R K : Int) (w : World) (n0 : 1 ≤ N) (n1 : N ≤ 1048576) (w0 : 16 ≤ W) (w1 : W ≤ 256) (r0 : 1 ≤ R) (r1 : R ≤ 4096) (k0 : 1 ≤ K) (k1 : K ≤ 65536) (hx : 4194304 < N * W) :
    Calls Try.prog 7 #[.agg #[.int .i64 N, .int .i64 W, .int .i64 R, .int .i64 K]] w fun e w' => e = .returned (.bool false) ∧ Below w.heap.size w w' := by
  have hm := mul_le_of (a := N) (b := W) (by omega) (by omega) n1 w1
  go_enter Try.func7, Try.ntmps7
  go_wp2
  go_ret
  exact ⟨ret_bool (by simp; omega), below_new _ _⟩

theorem refMay_no (N W R K : Int) (w : World) (h : mayB N W R K = false) :
    Calls Try.prog 7 #[.agg #[.int .i64 N, .int .i64 W, .int .i64 R, .int .i64 K]] w fun e w' => e = .returned (.bool false) ∧ Below w.heap.size w w' := by
  have h := not_may h
  by_cases h0 : N < 1
  · exact refMay_no0 N W R K w h0
  by_cases h1 : 1048576 < N
  · exact refMay_no1 N W R K w (by omega) h1
  by_cases h2 : W < 16
  · exact refMay_no2 N W R K w (by omega) (by omega) h2
  by_cases h3 : 256 < W
  · exact refMay_no3 N W R K w (by omega) (by omega) (by omega) h3
  by_cases h4 : R < 1
  · exact refMay_no4 N W R K w (by omega) (by omega) (by omega) (by omega) h4
  by_cases h5 : 4096 < R
  · exact refMay_no5 N W R K w (by omega) (by omega) (by omega) (by omega) (by omega) h5
  by_cases h6 : K < 1
  · exact refMay_no6 N W R K w (by omega) (by omega) (by omega) (by omega) (by omega) (by omega) h6
  by_cases h7 : 65536 < K
  · exact refMay_no7 N W R K w (by omega) (by omega) (by omega) (by omega) (by omega) (by omega) (by omega) h7
  refine refMay_no8 N W R K w (by omega) (by omega) (by omega) (by omega) (by omega) (by omega) (by omega) (by omega) ?_
  by_cases hp : 4194304 < N * W
  · exact hp
  · exact absurd ⟨by omega, by omega, by omega, by omega, by omega, by omega, by omega, by omega, by omega⟩ h

end Go.Proofs.Ytgfpcamgebnfmaa.Pk
