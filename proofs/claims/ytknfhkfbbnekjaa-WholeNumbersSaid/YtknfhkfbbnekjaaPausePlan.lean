/-
  What plan.Pause returns.
-/
import Derived.Test.YtknfhkfbbnekjaaPlanNums
namespace Go.Proofs.Ytknfhkfbbnekjaa.Pk
open Go.RowKit
set_option linter.unusedVariables false
set_option linter.unusedSimpArgs false

set_option maxRecDepth 100000 in
set_option maxHeartbeats 1000000 in
theorem pause_no (N W R K kind blocks : Int) (w : World) (h : mayB N W R K = false) :
    Calls Try.prog 8 #[.agg #[.int .i64 N, .int .i64 W, .int .i64 R, .int .i64 K], .int .i64 kind, .int .i64 blocks] w fun e w' => e = .returned (.int .i64 0) ∧ Below w.heap.size w w' := by
  have HX := Lib.hid h
  clear h
  go_enter Try.func8, Try.ntmps8
  go_wp2_with fail
  refine (of_no _ _ _ _ _ HX.out).mono ?_
  rintro e w1 ⟨rfl, hb⟩
  have hz : w.heap.size < w1.heap.size := by have := hb.size; simp at this; omega
  have HB := Lib.hid hb
  clear hb
  go_wp2_with fail
  go_ret
  exact ⟨rfl, (below_step (below_new w _) HB.out).alloc (by omega) _⟩

set_option maxRecDepth 100000 in
set_option maxHeartbeats 1000000 in
theorem pause_alloc (N W R K blocks : Int) (w : World) (h : May N W R K) (c each : Int) (H1 : Hid (addL [W, K] = W + K)) (H2 : Hid (mulL [100, W + K] = 100 * (W + K))) (H3 : Hid (addL [256, 100 * (W + K)] = each)) (H4 : Hid (clampI blocks 0 (W - 7) = c)) (H5 : Hid (mulL [c, each] = c * each)) (H6 : Hid (addL [512, c * each] = 512 + c * each)) :
    Calls Try.prog 8 #[.agg #[.int .i64 N, .int .i64 W, .int .i64 R, .int .i64 K], .int .i64 1, .int .i64 blocks] w fun e w' => e = .returned (.int .i64 (512 + c * each)) ∧ Below w.heap.size w w' := by
  have HX := Lib.hid h
  clear h
  go_enter Try.func8, Try.ntmps8
  go_wp2_with fail
  refine (of_yes _ _ _ _ _ HX.out).mono ?_
  rintro e w1 ⟨rfl, hb⟩
  obtain ⟨hc, hf⟩ := bcell hb
  have hz : w.heap.size < w1.heap.size := by have := hb.size; simp at this; omega
  have HB := Lib.hid hb
  clear hb
  unfold numsV
  go_wp2_with fail
  refine (eqIv (add2_lit _ _ _ _ (by simp)) H1.out).mono ?_
  rintro e w2 ⟨rfl, rfl⟩
  go_wp2_with fail
  refine (eqIv (mul2_lit _ _ _ _ (by simp)) H2.out).mono ?_
  rintro e w2 ⟨rfl, rfl⟩
  go_wp2_with fail
  refine (eqIv (add2_lit _ _ _ _ (by simp)) H3.out).mono ?_
  rintro e w2 ⟨rfl, rfl⟩
  go_wp2_with fail
  refine (eqIv (clamp_any _ _ _ _) H4.out).mono ?_
  rintro e w2 ⟨rfl, rfl⟩
  go_wp2_with fail
  refine (eqIv (mul2_lit _ _ _ _ (by simp)) H5.out).mono ?_
  rintro e w2 ⟨rfl, rfl⟩
  go_wp2_with fail
  refine (eqIv (add2_lit _ _ _ _ (by simp)) H6.out).mono ?_
  rintro e w2 ⟨rfl, rfl⟩
  go_wp2_with fail
  go_ret
  refine ⟨rfl, ?_⟩
  have hb0 := below_step (below_new w (.cells #[.int .i64 N, .int .i64 W, .int .i64 R, .int .i64 K] 23)) HB.out
  repeat refine Below.alloc ?_ (by first | omega | (simp; omega)) _
  exact hb0

set_option maxRecDepth 100000 in
set_option maxHeartbeats 1000000 in
theorem pause_tick (N W R K blocks : Int) (w : World) (h : May N W R K) (H1 : Hid (mulL [200, K] = 200 * K)) (H2 : Hid (addL [256, 200 * K] = 256 + 200 * K)) :
    Calls Try.prog 8 #[.agg #[.int .i64 N, .int .i64 W, .int .i64 R, .int .i64 K], .int .i64 10, .int .i64 blocks] w fun e w' => e = .returned (.int .i64 (256 + 200 * K)) ∧ Below w.heap.size w w' := by
  have HX := Lib.hid h
  clear h
  go_enter Try.func8, Try.ntmps8
  go_wp2_with fail
  refine (of_yes _ _ _ _ _ HX.out).mono ?_
  rintro e w1 ⟨rfl, hb⟩
  obtain ⟨hc, hf⟩ := bcell hb
  have hz : w.heap.size < w1.heap.size := by have := hb.size; simp at this; omega
  have HB := Lib.hid hb
  clear hb
  unfold numsV
  go_wp2_with fail
  refine (eqIv (mul2_lit _ _ _ _ (by simp)) H1.out).mono ?_
  rintro e w2 ⟨rfl, rfl⟩
  go_wp2_with fail
  refine (eqIv (add2_lit _ _ _ _ (by simp)) H2.out).mono ?_
  rintro e w2 ⟨rfl, rfl⟩
  go_wp2_with fail
  go_ret
  refine ⟨rfl, ?_⟩
  have hb0 := below_step (below_new w (.cells #[.int .i64 N, .int .i64 W, .int .i64 R, .int .i64 K] 23)) HB.out
  repeat refine Below.alloc ?_ (by first | omega | (simp; omega)) _
  exact hb0

set_option maxRecDepth 100000 in
set_option maxHeartbeats 1000000 in
theorem pause_plain (N W R K kind blocks : Int) (w : World) (h : May N W R K) (hk : kind = 2 ∨ kind = 3 ∨ kind = 4 ∨ kind = 5 ∨ kind = 6 ∨ kind = 7 ∨ kind = 8 ∨ kind = 9) :
    Calls Try.prog 8 #[.agg #[.int .i64 N, .int .i64 W, .int .i64 R, .int .i64 K], .int .i64 kind, .int .i64 blocks] w fun e w' => e = .returned (.int .i64 512) ∧ Below w.heap.size w w' := by
  have HX := Lib.hid h
  clear h
  rcases hk with rfl | rfl | rfl | rfl | rfl | rfl | rfl | rfl
  all_goals
    go_enter Try.func8, Try.ntmps8
    go_wp2_with fail
    refine (of_yes _ _ _ _ _ HX.out).mono ?_
    rintro e w1 ⟨rfl, hb⟩
    obtain ⟨hc, hf⟩ := bcell hb
    have hz : w.heap.size < w1.heap.size := by have := hb.size; simp at this; omega
    have HB := Lib.hid hb
    clear hb
    unfold numsV
    go_wp2_with fail
    go_ret
    refine ⟨rfl, ?_⟩
    have hb0 := below_step (below_new w (.cells #[.int .i64 N, .int .i64 W, .int .i64 R, .int .i64 K] 23)) HB.out
    repeat refine Below.alloc ?_ (by first | omega | (simp; omega)) _
    exact hb0

set_option maxRecDepth 100000 in
set_option maxHeartbeats 1000000 in
theorem pause_other (N W R K kind blocks : Int) (w : World) (h : May N W R K) (hk : kind < 1 ∨ 10 < kind) :
    Calls Try.prog 8 #[.agg #[.int .i64 N, .int .i64 W, .int .i64 R, .int .i64 K], .int .i64 kind, .int .i64 blocks] w fun e w' => e = .returned (.int .i64 0) ∧ Below w.heap.size w w' := by
  have HX := Lib.hid h
  have b1 : (kind == 1) = false := bne_of (by omega)
  have b2 : (kind == 2) = false := bne_of (by omega)
  have b3 : (kind == 3) = false := bne_of (by omega)
  have b4 : (kind == 4) = false := bne_of (by omega)
  have b5 : (kind == 5) = false := bne_of (by omega)
  have b6 : (kind == 6) = false := bne_of (by omega)
  have b7 : (kind == 7) = false := bne_of (by omega)
  have b8 : (kind == 8) = false := bne_of (by omega)
  have b9 : (kind == 9) = false := bne_of (by omega)
  have b10 : (kind == 10) = false := bne_of (by omega)
  clear h hk
  go_enter Try.func8, Try.ntmps8
  go_wp2_with fail
  refine (of_yes _ _ _ _ _ HX.out).mono ?_
  rintro e w1 ⟨rfl, hb⟩
  obtain ⟨hc, hf⟩ := bcell hb
  have hz : w.heap.size < w1.heap.size := by have := hb.size; simp at this; omega
  have HB := Lib.hid hb
  clear hb
  unfold numsV
  go_wp2_with fail
  go_ret
  refine ⟨rfl, ?_⟩
  have hb0 := below_step (below_new w (.cells #[.int .i64 N, .int .i64 W, .int .i64 R, .int .i64 K] 23)) HB.out
  repeat refine Below.alloc ?_ (by first | omega | (simp; omega)) _
  exact hb0

theorem pause_any (N W R K kind blocks : Int) (w : World) :
    Calls Try.prog 8 #[.agg #[.int .i64 N, .int .i64 W, .int .i64 R, .int .i64 K], .int .i64 kind, .int .i64 blocks] w fun e w' => e = .returned (.int .i64 (pauseI N W R K kind blocks)) ∧ Below w.heap.size w w' := by
  unfold pauseI
  cases hm : mayB N W R K with
  | false => rw [if_neg (by decide)]; exact pause_no N W R K kind blocks w hm
  | true =>
    rw [if_pos rfl]
    have h := may_of hm
    have w0 := h.w0; have w1 := h.w1; have k0 := h.k0; have k1 := h.k1
    by_cases h1 : kind = 1
    · subst h1
      rw [if_pos rfl]
      have hc := clamp_bd (n := blocks) (show 0 ≤ W - 7 by omega)
      have he : 0 ≤ eachI W K ∧ eachI W K ≤ 6579456 := by unfold eachI; omega
      have hm := mul_le_of hc.1 he.1 (show clampI blocks 0 (W - 7) ≤ 249 by omega) he.2
      exact pause_alloc N W R K blocks w h (clampI blocks 0 (W - 7)) (eachI W K) (Lib.hid (add2_id (by omega) (by omega) (by omega))) (Lib.hid (mul2_id (by omega) (by omega) (by omega) (by omega) (by omega))) (Lib.hid (add2_id (by omega) (by omega) (by omega)))
        (Lib.hid rfl) (Lib.hid (mul2_id hc.1 he.1 (by omega) (by omega) (by omega))) (Lib.hid (add2_id (by omega) hm.1 (by omega)))
    · rw [if_neg h1]
      by_cases h2 : kind = 10
      · subst h2
        rw [if_pos rfl]
        exact pause_tick N W R K blocks w h (Lib.hid (mul2_id (by omega) (by omega) (by omega) (by omega) (by omega))) (Lib.hid (add2_id (by omega) (by omega) (by omega)))
      · rw [if_neg h2]
        by_cases h3 : 2 ≤ kind ∧ kind ≤ 9
        · rw [if_pos h3]; exact pause_plain N W R K kind blocks w h (by omega)
        · rw [if_neg h3]; exact pause_other N W R K kind blocks w h (by omega)

end Go.Proofs.Ytknfhkfbbnekjaa.Pk
