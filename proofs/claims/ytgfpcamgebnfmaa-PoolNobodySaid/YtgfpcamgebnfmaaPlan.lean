/-
  What the functions of package plan return.
-/
import Derived.Test.YtgfpcamgebnfmaaProg
import Derived.Test.YtgfpcamgebnfmaaPlanMath
import Derived.Test.YtgfpcamgebnfmaaRatio
import Derived.IntWalk
namespace Go.Proofs.Ytgfpcamgebnfmaa.Pk
open Go.RowKit
set_option linter.unusedVariables false
set_option linter.unusedSimpArgs false

theorem eqIv {P : Program} {f : FuncId} {args : Array Value} {w : World} {a b : Int} (h : Calls P f args w fun e w' => e = .returned (.int .i64 a) ∧ w = w') (hab : a = b) :
    Calls P f args w fun e w' => e = .returned (.int .i64 b) ∧ w = w' := hab ▸ h
theorem mul2_lit (x y : Int) (w : World) (m : Nat) (h : m = w.heap.size) :
    Calls Try.prog 41 #[.slice (some ⟨m, 0, none⟩) 2 2] (w.alloc (.cells #[.int .i64 x, .int .i64 y] 3)) fun e w' => e = .returned (.int .i64 (mulL [x, y])) ∧ w.alloc (.cells #[.int .i64 x, .int .i64 y] 3) = w' := by
  subst h
  exact mul_any (some ⟨w.heap.size, 0, none⟩) 2 [x, y] _ (Row.lit w .i64 [x, y] 3) (by simp)
theorem add2_lit (x y : Int) (w : World) (m : Nat) (h : m = w.heap.size) :
    Calls Try.prog 40 #[.slice (some ⟨m, 0, none⟩) 2 2] (w.alloc (.cells #[.int .i64 x, .int .i64 y] 3)) fun e w' => e = .returned (.int .i64 (addL [x, y])) ∧ w.alloc (.cells #[.int .i64 x, .int .i64 y] 3) = w' := by
  subst h
  exact add_any (some ⟨w.heap.size, 0, none⟩) 2 [x, y] _ (Row.lit w .i64 [x, y] 3) (by simp)

set_option maxHeartbeats 400000 in
theorem within_yes (n lo hi : Int) (w : World) (h0 : lo ≤ n) (h1 : n ≤ hi) :
    Calls Try.prog 62 #[.int .i64 n, .int .i64 lo, .int .i64 hi] w fun e w' => e = .returned (.bool true) ∧ w = w' := by
  have E := Lib.hid (clamp_in h0 h1)
  go_enter Try.func62, Try.ntmps62
  go_wp2_with fail
  refine (eqIv (clamp_any _ _ _ _) E.out).mono ?_
  rintro e w1 ⟨rfl, rfl⟩
  go_wp2_with fail
  go_ret
  exact ⟨ret_bool (by simp), rfl⟩

set_option maxHeartbeats 400000 in
theorem within_no (n lo hi : Int) (w : World) (h : lo ≤ hi) (h1 : n < lo ∨ hi < n) :
    Calls Try.prog 62 #[.int .i64 n, .int .i64 lo, .int .i64 hi] w fun e w' => e = .returned (.bool false) ∧ w = w' := by
  have E : ((clampI n lo hi) == n) = false := bne_of (clamp_out h h1)
  clear h h1
  go_enter Try.func62, Try.ntmps62
  go_wp2_with fail
  refine (clamp_any _ _ _ _).mono ?_
  rintro e w1 ⟨rfl, rfl⟩
  go_wp2_with fail
  go_ret
  exact ⟨ret_bool (by simp [E]), rfl⟩

set_option maxHeartbeats 1000000 in
theorem check_yes (N W R K : Int) (w : World) (h : May N W R K) :
    Calls Try.prog 39 #[.agg #[.int .i64 N, .int .i64 W, .int .i64 R, .int .i64 K]] w fun e w' => e = .returned (.int .i64 0) ∧ Below w.heap.size w w' := by
  have hb := nw_bd h
  have E : Hid (mulL [N, W] = N * W) := Lib.hid (mul2_id (by have := h.n0; omega) (by have := h.w0; omega) (by have := h.n1; omega) (by have := h.w1; omega) (by omega))
  have hle : N * W ≤ 4194304 := hb.2
  generalize N * W = p at *
  obtain ⟨n0, n1, w0, w1, r0, r1, k0, k1, _⟩ := h
  clear hb
  go_enter Try.func39, Try.ntmps39
  go_wp2_with fail
  refine (within_yes _ _ _ _ n0 n1).mono ?_
  rintro e w1 ⟨rfl, rfl⟩
  go_wp2_with fail
  refine (within_yes _ _ _ _ w0 w1).mono ?_
  rintro e w1 ⟨rfl, rfl⟩
  go_wp2_with fail
  refine (within_yes _ _ _ _ r0 r1).mono ?_
  rintro e w1 ⟨rfl, rfl⟩
  go_wp2_with fail
  refine (within_yes _ _ _ _ k0 k1).mono ?_
  rintro e w1 ⟨rfl, rfl⟩
  go_wp2_with fail
  refine (eqIv (mul2_lit _ _ _ _ (by simp)) E.out).mono ?_
  rintro e w1 ⟨rfl, rfl⟩
  go_wp2_with fail
  go_ret
  exact ⟨rfl, (below_new _ _).alloc (by simp) _⟩
set_option maxHeartbeats 1000000 in
theorem check_no0 (N W R K : Int) (w : World) (hx : N < 1 ∨ 1048576 < N) :
    Calls Try.prog 39 #[.agg #[.int .i64 N, .int .i64 W, .int .i64 R, .int .i64 K]] w fun e w' => e = .returned (.int .i64 1) ∧ Below w.heap.size w w' := by
  have HX := Lib.hid hx
  clear hx
  go_enter Try.func39, Try.ntmps39
  go_wp2_with fail
  refine (within_no _ _ _ _ (by decide) HX.out).mono ?_
  rintro e w1 ⟨rfl, rfl⟩
  go_wp2_with fail
  go_ret
  exact ⟨rfl, below_new _ _⟩

set_option maxHeartbeats 1000000 in
theorem check_no1 (N W R K : Int) (w : World) (n0 : 1 ≤ N) (n1 : N ≤ 1048576) (hx : W < 16 ∨ 256 < W) :
    Calls Try.prog 39 #[.agg #[.int .i64 N, .int .i64 W, .int .i64 R, .int .i64 K]] w fun e w' => e = .returned (.int .i64 1) ∧ Below w.heap.size w w' := by
  have HX := Lib.hid hx
  clear hx
  go_enter Try.func39, Try.ntmps39
  go_wp2_with fail
  refine (within_yes _ _ _ _ n0 n1).mono ?_
  rintro e w1 ⟨rfl, rfl⟩
  go_wp2_with fail
  refine (within_no _ _ _ _ (by decide) HX.out).mono ?_
  rintro e w1 ⟨rfl, rfl⟩
  go_wp2_with fail
  go_ret
  exact ⟨rfl, below_new _ _⟩

set_option maxHeartbeats 1000000 in
theorem check_no2 (N W R K : Int) (w : World) (n0 : 1 ≤ N) (n1 : N ≤ 1048576) (w0 : 16 ≤ W) (w1 : W ≤ 256) (hx : R < 1 ∨ 4096 < R) :
    Calls Try.prog 39 #[.agg #[.int .i64 N, .int .i64 W, .int .i64 R, .int .i64 K]] w fun e w' => e = .returned (.int .i64 1) ∧ Below w.heap.size w w' := by
  have HX := Lib.hid hx
  clear hx
  go_enter Try.func39, Try.ntmps39
  go_wp2_with fail
  refine (within_yes _ _ _ _ n0 n1).mono ?_
  rintro e w1 ⟨rfl, rfl⟩
  go_wp2_with fail
  refine (within_yes _ _ _ _ w0 w1).mono ?_
  rintro e w1 ⟨rfl, rfl⟩
  go_wp2_with fail
  refine (within_no _ _ _ _ (by decide) HX.out).mono ?_
  rintro e w1 ⟨rfl, rfl⟩
  go_wp2_with fail
  go_ret
  exact ⟨rfl, below_new _ _⟩

set_option maxHeartbeats 1000000 in
theorem check_no3 (N W R K : Int) (w : World) (n0 : 1 ≤ N) (n1 : N ≤ 1048576) (w0 : 16 ≤ W) (w1 : W ≤ 256) (r0 : 1 ≤ R) (r1 : R ≤ 4096) (hx : K < 1 ∨ 65536 < K) :
    Calls Try.prog 39 #[.agg #[.int .i64 N, .int .i64 W, .int .i64 R, .int .i64 K]] w fun e w' => e = .returned (.int .i64 1) ∧ Below w.heap.size w w' := by
  have HX := Lib.hid hx
  clear hx
  go_enter Try.func39, Try.ntmps39
  go_wp2_with fail
  refine (within_yes _ _ _ _ n0 n1).mono ?_
  rintro e w1 ⟨rfl, rfl⟩
  go_wp2_with fail
  refine (within_yes _ _ _ _ w0 w1).mono ?_
  rintro e w1 ⟨rfl, rfl⟩
  go_wp2_with fail
  refine (within_yes _ _ _ _ r0 r1).mono ?_
  rintro e w1 ⟨rfl, rfl⟩
  go_wp2_with fail
  refine (within_no _ _ _ _ (by decide) HX.out).mono ?_
  rintro e w1 ⟨rfl, rfl⟩
  go_wp2_with fail
  go_ret
  exact ⟨rfl, below_new _ _⟩

set_option maxHeartbeats 1000000 in
theorem check_no4 (N W R K : Int) (w : World) (n0 : 1 ≤ N) (n1 : N ≤ 1048576) (w0 : 16 ≤ W) (w1 : W ≤ 256) (r0 : 1 ≤ R) (r1 : R ≤ 4096) (k0 : 1 ≤ K) (k1 : K ≤ 65536) (hx : 4194304 < N * W) :
    Calls Try.prog 39 #[.agg #[.int .i64 N, .int .i64 W, .int .i64 R, .int .i64 K]] w fun e w' => e = .returned (.int .i64 1) ∧ Below w.heap.size w w' := by
  have hm := mul_le_of (a := N) (b := W) (by omega) (by omega) n1 w1
  have E : Hid (mulL [N, W] = N * W) := Lib.hid (mul2_id (by omega) (by omega) (by omega) (by omega) (by omega))
  generalize N * W = q at *
  clear hm
  go_enter Try.func39, Try.ntmps39
  go_wp2_with fail
  refine (within_yes _ _ _ _ n0 n1).mono ?_
  rintro e w1 ⟨rfl, rfl⟩
  go_wp2_with fail
  refine (within_yes _ _ _ _ w0 w1).mono ?_
  rintro e w1 ⟨rfl, rfl⟩
  go_wp2_with fail
  refine (within_yes _ _ _ _ r0 r1).mono ?_
  rintro e w1 ⟨rfl, rfl⟩
  go_wp2_with fail
  refine (within_yes _ _ _ _ k0 k1).mono ?_
  rintro e w1 ⟨rfl, rfl⟩
  go_wp2_with fail
  refine (eqIv (mul2_lit _ _ _ _ (by simp)) E.out).mono ?_
  rintro e w1 ⟨rfl, rfl⟩
  go_wp2_with fail
  go_ret
  exact ⟨rfl, (below_new _ _).alloc (by simp) _⟩

theorem check_no (N W R K : Int) (w : World) (h : mayB N W R K = false) :
    Calls Try.prog 39 #[.agg #[.int .i64 N, .int .i64 W, .int .i64 R, .int .i64 K]] w fun e w' => e = .returned (.int .i64 1) ∧ Below w.heap.size w w' := by
  have h := not_may h
  by_cases hn : N < 1 ∨ 1048576 < N
  · exact check_no0 N W R K w hn
  · by_cases hw : W < 16 ∨ 256 < W
    · exact check_no1 N W R K w (by omega) (by omega) hw
    · by_cases hr : R < 1 ∨ 4096 < R
      · exact check_no2 N W R K w (by omega) (by omega) (by omega) (by omega) hr
      · by_cases hk : K < 1 ∨ 65536 < K
        · exact check_no3 N W R K w (by omega) (by omega) (by omega) (by omega) (by omega) (by omega) hk
        · refine check_no4 N W R K w (by omega) (by omega) (by omega) (by omega) (by omega) (by omega) (by omega) (by omega) ?_
          by_cases hp : 4194304 < N * W
          · exact hp
          · exact absurd ⟨by omega, by omega, by omega, by omega, by omega, by omega, by omega, by omega, by omega⟩ h

end Go.Proofs.Ytgfpcamgebnfmaa.Pk
