/-
  The document's May and Pause.
-/
import Derived.Test.YtknfhkfbbnekjaaPlanNums
namespace Go.Proofs.Ytknfhkfbbnekjaa.Pk
open Go.RowKit
set_option linter.unusedVariables false
set_option linter.unusedSimpArgs false

set_option maxRecDepth 100000 in
set_option maxHeartbeats 1000000 in
theorem refMay_yes (N W R K : Int) (w : World) (h : May N W R K) :
    Calls Try.prog 16 #[.agg #[.int .i64 N, .int .i64 W, .int .i64 R, .int .i64 K]] w fun e w' => e = .returned (.bool true) ∧ Below w.heap.size w w' := by
  obtain ⟨n0, n1, w0, w1, r0, r1, k0, k1, nw⟩ := h
  have hm := mul_le_of (a := N) (b := W) (by omega) (by omega) n1 w1
  go_enter Try.func16, Try.ntmps16
  go_wp2
  go_ret
  exact ⟨ret_bool (by first | (simp; done) | (simp; omega)), below_new _ _⟩

set_option maxRecDepth 100000 in
set_option maxHeartbeats 1000000 in
theorem refMay_no0 (N W R K : Int) (w : World) (hx : N < 1) :
    Calls Try.prog 16 #[.agg #[.int .i64 N, .int .i64 W, .int .i64 R, .int .i64 K]] w fun e w' => e = .returned (.bool false) ∧ Below w.heap.size w w' := by
  go_enter Try.func16, Try.ntmps16
  go_wp2
  go_ret
  exact ⟨rfl, below_new _ _⟩

set_option maxRecDepth 100000 in
set_option maxHeartbeats 1000000 in
theorem refMay_no1 (N W R K : Int) (w : World) (n0 : 1 ≤ N) (hx : 1048576 < N) :
    Calls Try.prog 16 #[.agg #[.int .i64 N, .int .i64 W, .int .i64 R, .int .i64 K]] w fun e w' => e = .returned (.bool false) ∧ Below w.heap.size w w' := by
  go_enter Try.func16, Try.ntmps16
  go_wp2
  go_ret
  exact ⟨rfl, below_new _ _⟩

set_option maxRecDepth 100000 in
set_option maxHeartbeats 1000000 in
theorem refMay_no2 (N W R K : Int) (w : World) (n0 : 1 ≤ N) (n1 : N ≤ 1048576) (hx : W < 16) :
    Calls Try.prog 16 #[.agg #[.int .i64 N, .int .i64 W, .int .i64 R, .int .i64 K]] w fun e w' => e = .returned (.bool false) ∧ Below w.heap.size w w' := by
  go_enter Try.func16, Try.ntmps16
  go_wp2
  go_ret
  exact ⟨rfl, below_new _ _⟩

set_option maxRecDepth 100000 in
set_option maxHeartbeats 1000000 in
theorem refMay_no3 (N W R K : Int) (w : World) (n0 : 1 ≤ N) (n1 : N ≤ 1048576) (w0 : 16 ≤ W) (hx : 256 < W) :
    Calls Try.prog 16 #[.agg #[.int .i64 N, .int .i64 W, .int .i64 R, .int .i64 K]] w fun e w' => e = .returned (.bool false) ∧ Below w.heap.size w w' := by
  go_enter Try.func16, Try.ntmps16
  go_wp2
  go_ret
  exact ⟨rfl, below_new _ _⟩

set_option maxRecDepth 100000 in
set_option maxHeartbeats 1000000 in
theorem refMay_no4 (N W R K : Int) (w : World) (n0 : 1 ≤ N) (n1 : N ≤ 1048576) (w0 : 16 ≤ W) (w1 : W ≤ 256) (hx : R < 1) :
    Calls Try.prog 16 #[.agg #[.int .i64 N, .int .i64 W, .int .i64 R, .int .i64 K]] w fun e w' => e = .returned (.bool false) ∧ Below w.heap.size w w' := by
  go_enter Try.func16, Try.ntmps16
  go_wp2
  go_ret
  exact ⟨rfl, below_new _ _⟩

set_option maxRecDepth 100000 in
set_option maxHeartbeats 1000000 in
theorem refMay_no5 (N W R K : Int) (w : World) (n0 : 1 ≤ N) (n1 : N ≤ 1048576) (w0 : 16 ≤ W) (w1 : W ≤ 256) (r0 : 1 ≤ R) (hx : 4096 < R) :
    Calls Try.prog 16 #[.agg #[.int .i64 N, .int .i64 W, .int .i64 R, .int .i64 K]] w fun e w' => e = .returned (.bool false) ∧ Below w.heap.size w w' := by
  go_enter Try.func16, Try.ntmps16
  go_wp2
  go_ret
  exact ⟨rfl, below_new _ _⟩

set_option maxRecDepth 100000 in
set_option maxHeartbeats 1000000 in
theorem refMay_no6 (N W R K : Int) (w : World) (n0 : 1 ≤ N) (n1 : N ≤ 1048576) (w0 : 16 ≤ W) (w1 : W ≤ 256) (r0 : 1 ≤ R) (r1 : R ≤ 4096) (hx : K < 1) :
    Calls Try.prog 16 #[.agg #[.int .i64 N, .int .i64 W, .int .i64 R, .int .i64 K]] w fun e w' => e = .returned (.bool false) ∧ Below w.heap.size w w' := by
  go_enter Try.func16, Try.ntmps16
  go_wp2
  go_ret
  exact ⟨rfl, below_new _ _⟩

set_option maxRecDepth 100000 in
set_option maxHeartbeats 1000000 in
theorem refMay_no7 (N W R K : Int) (w : World) (n0 : 1 ≤ N) (n1 : N ≤ 1048576) (w0 : 16 ≤ W) (w1 : W ≤ 256) (r0 : 1 ≤ R) (r1 : R ≤ 4096) (k0 : 1 ≤ K) (hx : 65536 < K) :
    Calls Try.prog 16 #[.agg #[.int .i64 N, .int .i64 W, .int .i64 R, .int .i64 K]] w fun e w' => e = .returned (.bool false) ∧ Below w.heap.size w w' := by
  go_enter Try.func16, Try.ntmps16
  go_wp2
  go_ret
  exact ⟨rfl, below_new _ _⟩

set_option maxRecDepth 100000 in
set_option maxHeartbeats 1000000 in
theorem refMay_no8 (N W R K : Int) (w : World) (n0 : 1 ≤ N) (n1 : N ≤ 1048576) (w0 : 16 ≤ W) (w1 : W ≤ 256) (r0 : 1 ≤ R) (r1 : R ≤ 4096) (k0 : 1 ≤ K) (k1 : K ≤ 65536) (hx : 4194304 < N * W) :
    Calls Try.prog 16 #[.agg #[.int .i64 N, .int .i64 W, .int .i64 R, .int .i64 K]] w fun e w' => e = .returned (.bool false) ∧ Below w.heap.size w w' := by
  have hm := mul_le_of (a := N) (b := W) (by omega) (by omega) n1 w1
  go_enter Try.func16, Try.ntmps16
  go_wp2
  go_ret
  exact ⟨ret_bool (by simp; omega), below_new _ _⟩

theorem refMay_no (N W R K : Int) (w : World) (h : mayB N W R K = false) :
    Calls Try.prog 16 #[.agg #[.int .i64 N, .int .i64 W, .int .i64 R, .int .i64 K]] w fun e w' => e = .returned (.bool false) ∧ Below w.heap.size w w' := by
  have h := not_may h
  by_cases h0 : N < 1
  · exact refMay_no0 N W R K w h0
  by_cases h1 : 1048576 < N
  · exact refMay_no1 N W R K w (by omega) h1
  by_cases h2 : W < 16
  · exact refMay_no2 N W R K w (by omega) (by omega) h2
  by_cases h3 : 256 < W
  · exact refMay_no3 N W R K w (by omega) (by omega) (by omega) h3
  by_cases h4 : R < 1
  · exact refMay_no4 N W R K w (by omega) (by omega) (by omega) (by omega) h4
  by_cases h5 : 4096 < R
  · exact refMay_no5 N W R K w (by omega) (by omega) (by omega) (by omega) (by omega) h5
  by_cases h6 : K < 1
  · exact refMay_no6 N W R K w (by omega) (by omega) (by omega) (by omega) (by omega) (by omega) h6
  by_cases h7 : 65536 < K
  · exact refMay_no7 N W R K w (by omega) (by omega) (by omega) (by omega) (by omega) (by omega) (by omega) h7
  refine refMay_no8 N W R K w (by omega) (by omega) (by omega) (by omega) (by omega) (by omega) (by omega) (by omega) ?_
  by_cases hp : 4194304 < N * W
  · exact hp
  · exact absurd ⟨by omega, by omega, by omega, by omega, by omega, by omega, by omega, by omega, by omega⟩ h

set_option maxRecDepth 100000 in
set_option maxHeartbeats 1000000 in
theorem refPause_no (N W R K kind blocks : Int) (w : World) (h : mayB N W R K = false) :
    Calls Try.prog 9 #[.agg #[.int .i64 N, .int .i64 W, .int .i64 R, .int .i64 K], .int .i64 kind, .int .i64 blocks] w fun e w' => e = .returned (.int .i64 0) ∧ Below w.heap.size w w' := by
  have HX := Lib.hid h
  clear h
  go_enter Try.func9, Try.ntmps9
  go_wp2_with fail
  refine (refMay_no _ _ _ _ _ HX.out).mono ?_
  rintro e w1 ⟨rfl, hb⟩
  obtain ⟨hc, hf⟩ := bcell hb
  have hz : w.heap.size < w1.heap.size := by have := hb.size; simp at this; omega
  have HB := Lib.hid hb
  clear hb
  go_wp2_with fail
  go_ret
  exact ⟨rfl, below_step (below_new w _) HB.out⟩

set_option maxRecDepth 100000 in
set_option maxHeartbeats 1000000 in
theorem refPause_low (N W R K kind blocks : Int) (w : World) (h : May N W R K) (hk : kind < 1) :
    Calls Try.prog 9 #[.agg #[.int .i64 N, .int .i64 W, .int .i64 R, .int .i64 K], .int .i64 kind, .int .i64 blocks] w fun e w' => e = .returned (.int .i64 0) ∧ Below w.heap.size w w' := by
  have HX := Lib.hid h
  clear h
  go_enter Try.func9, Try.ntmps9
  go_wp2_with fail
  refine (refMay_yes _ _ _ _ _ HX.out).mono ?_
  rintro e w1 ⟨rfl, hb⟩
  obtain ⟨hc, hf⟩ := bcell hb
  have hz : w.heap.size < w1.heap.size := by have := hb.size; simp at this; omega
  have HB := Lib.hid hb
  clear hb
  go_wp2_with fail
  go_ret
  exact ⟨rfl, below_step (below_new w _) HB.out⟩

set_option maxRecDepth 100000 in
set_option maxHeartbeats 1000000 in
theorem refPause_high (N W R K kind blocks : Int) (w : World) (h : May N W R K) (hk : 10 < kind) :
    Calls Try.prog 9 #[.agg #[.int .i64 N, .int .i64 W, .int .i64 R, .int .i64 K], .int .i64 kind, .int .i64 blocks] w fun e w' => e = .returned (.int .i64 0) ∧ Below w.heap.size w w' := by
  have HX := Lib.hid h
  clear h
  go_enter Try.func9, Try.ntmps9
  go_wp2_with fail
  refine (refMay_yes _ _ _ _ _ HX.out).mono ?_
  rintro e w1 ⟨rfl, hb⟩
  obtain ⟨hc, hf⟩ := bcell hb
  have hz : w.heap.size < w1.heap.size := by have := hb.size; simp at this; omega
  have HB := Lib.hid hb
  clear hb
  go_wp2_with fail
  go_ret
  exact ⟨rfl, below_step (below_new w _) HB.out⟩

set_option maxRecDepth 100000 in
set_option maxHeartbeats 1000000 in
theorem refPause_tick (N W R K blocks : Int) (w : World) (h : May N W R K) :
    Calls Try.prog 9 #[.agg #[.int .i64 N, .int .i64 W, .int .i64 R, .int .i64 K], .int .i64 10, .int .i64 blocks] w fun e w' => e = .returned (.int .i64 (256 + 200 * K)) ∧ Below w.heap.size w w' := by
  have k0 := h.k0
  have k1 := h.k1
  have HX := Lib.hid h
  clear h
  go_enter Try.func9, Try.ntmps9
  go_wp2_with fail
  refine (refMay_yes _ _ _ _ _ HX.out).mono ?_
  rintro e w1 ⟨rfl, hb⟩
  obtain ⟨hc, hf⟩ := bcell hb
  have hz : w.heap.size < w1.heap.size := by have := hb.size; simp at this; omega
  have HB := Lib.hid hb
  clear hb
  go_wp2_with fail
  go_ret
  exact ⟨rfl, below_step (below_new w _) HB.out⟩

set_option maxRecDepth 100000 in
set_option maxHeartbeats 1000000 in
theorem refPause_plain (N W R K kind blocks : Int) (w : World) (h : May N W R K) (hk : 1 < kind) (hk2 : kind < 10) :
    Calls Try.prog 9 #[.agg #[.int .i64 N, .int .i64 W, .int .i64 R, .int .i64 K], .int .i64 kind, .int .i64 blocks] w fun e w' => e = .returned (.int .i64 512) ∧ Below w.heap.size w w' := by
  have b10 : (kind == 10) = false := bne_of (by omega)
  have HX := Lib.hid h
  clear h
  go_enter Try.func9, Try.ntmps9
  go_wp2_with fail
  refine (refMay_yes _ _ _ _ _ HX.out).mono ?_
  rintro e w1 ⟨rfl, hb⟩
  obtain ⟨hc, hf⟩ := bcell hb
  have hz : w.heap.size < w1.heap.size := by have := hb.size; simp at this; omega
  have HB := Lib.hid hb
  clear hb
  go_wp2_with fail
  go_ret
  exact ⟨rfl, below_step (below_new w _) HB.out⟩

set_option maxRecDepth 100000 in
set_option maxHeartbeats 1000000 in
theorem refPause_lo (N W R K blocks : Int) (w : World) (h : May N W R K) (hx : blocks < 0) :
    Calls Try.prog 9 #[.agg #[.int .i64 N, .int .i64 W, .int .i64 R, .int .i64 K], .int .i64 1, .int .i64 blocks] w fun e w' => e = .returned (.int .i64 (512 + 0 * (256 + 100 * (W + K)))) ∧ Below w.heap.size w w' := by
  have w0 := h.w0
  have w1 := h.w1
  have k0 := h.k0
  have k1 := h.k1
  have HX := Lib.hid h
  clear h
  go_enter Try.func9, Try.ntmps9
  go_wp2_with fail
  refine (refMay_yes _ _ _ _ _ HX.out).mono ?_
  rintro e w1 ⟨rfl, hb⟩
  obtain ⟨hc, hf⟩ := bcell hb
  have hz : w.heap.size < w1.heap.size := by have := hb.size; simp at this; omega
  have HB := Lib.hid hb
  clear hb
  go_wp2_with fail
  go_ret
  exact ⟨ret_int (by simp), below_step (below_new w _) HB.out⟩

set_option maxRecDepth 100000 in
set_option maxHeartbeats 1000000 in
theorem refPause_mid (N W R K blocks : Int) (w : World) (h : May N W R K) (hx : 0 ≤ blocks) (hx2 : blocks ≤ W - 7) :
    Calls Try.prog 9 #[.agg #[.int .i64 N, .int .i64 W, .int .i64 R, .int .i64 K], .int .i64 1, .int .i64 blocks] w fun e w' => e = .returned (.int .i64 (512 + blocks * (256 + 100 * (W + K)))) ∧ Below w.heap.size w w' := by
  have w0 := h.w0
  have w1 := h.w1
  have k0 := h.k0
  have k1 := h.k1
  have hm := mul_le_of (a := blocks) (b := 256 + 100 * (W + K)) (A := 249) (B := 6579456) (by omega) (by omega) (by omega) (by omega)
  have HX := Lib.hid h
  clear h
  go_enter Try.func9, Try.ntmps9
  go_wp2_with fail
  refine (refMay_yes _ _ _ _ _ HX.out).mono ?_
  rintro e w1 ⟨rfl, hb⟩
  obtain ⟨hc, hf⟩ := bcell hb
  have hz : w.heap.size < w1.heap.size := by have := hb.size; simp at this; omega
  have HB := Lib.hid hb
  clear hb
  go_wp2_with fail
  go_ret
  exact ⟨rfl, below_step (below_new w _) HB.out⟩

set_option maxRecDepth 100000 in
set_option maxHeartbeats 1000000 in
theorem refPause_hi (N W R K blocks : Int) (w : World) (h : May N W R K) (hx : W - 7 < blocks) :
    Calls Try.prog 9 #[.agg #[.int .i64 N, .int .i64 W, .int .i64 R, .int .i64 K], .int .i64 1, .int .i64 blocks] w fun e w' => e = .returned (.int .i64 (512 + (W - 7) * (256 + 100 * (W + K)))) ∧ Below w.heap.size w w' := by
  have w0 := h.w0
  have w1 := h.w1
  have k0 := h.k0
  have k1 := h.k1
  have hm := mul_le_of (a := (W - 7)) (b := 256 + 100 * (W + K)) (A := 249) (B := 6579456) (by omega) (by omega) (by omega) (by omega)
  have HX := Lib.hid h
  clear h
  go_enter Try.func9, Try.ntmps9
  go_wp2_with fail
  refine (refMay_yes _ _ _ _ _ HX.out).mono ?_
  rintro e w1 ⟨rfl, hb⟩
  obtain ⟨hc, hf⟩ := bcell hb
  have hz : w.heap.size < w1.heap.size := by have := hb.size; simp at this; omega
  have HB := Lib.hid hb
  clear hb
  go_wp2_with fail
  go_ret
  exact ⟨rfl, below_step (below_new w _) HB.out⟩

theorem refPause_any (N W R K kind blocks : Int) (w : World) :
    Calls Try.prog 9 #[.agg #[.int .i64 N, .int .i64 W, .int .i64 R, .int .i64 K], .int .i64 kind, .int .i64 blocks] w fun e w' => e = .returned (.int .i64 (pauseI N W R K kind blocks)) ∧ Below w.heap.size w w' := by
  unfold pauseI
  cases hm : mayB N W R K with
  | false => rw [if_neg (by decide)]; exact refPause_no N W R K kind blocks w hm
  | true =>
    rw [if_pos rfl]
    have h := may_of hm
    have w0 := h.w0
    by_cases h1 : kind = 1
    · subst h1
      rw [if_pos rfl]
      unfold eachI
      by_cases hb : blocks < 0
      · rw [show clampI blocks 0 (W - 7) = 0 by unfold clampI; rw [if_neg (by omega), if_pos hb]]
        exact refPause_lo N W R K blocks w h hb
      · by_cases hb2 : W - 7 < blocks
        · rw [show clampI blocks 0 (W - 7) = W - 7 by unfold clampI; rw [if_pos hb2]]
          exact refPause_hi N W R K blocks w h hb2
        · rw [show clampI blocks 0 (W - 7) = blocks from clamp_in (by omega) (by omega)]
          exact refPause_mid N W R K blocks w h (by omega) (by omega)
    · rw [if_neg h1]
      by_cases h2 : kind = 10
      · subst h2
        rw [if_pos rfl]
        exact refPause_tick N W R K blocks w h
      · rw [if_neg h2]
        by_cases h3 : 2 ≤ kind ∧ kind ≤ 9
        · rw [if_pos h3]; exact refPause_plain N W R K kind blocks w h (by omega) (by omega)
        · rw [if_neg h3]
          by_cases h4 : kind < 1
          · exact refPause_low N W R K kind blocks w h h4
          · exact refPause_high N W R K kind blocks w h (by omega)

end Go.Proofs.Ytknfhkfbbnekjaa.Pk
