/-
  Ratio: What the functions of package ratio return, and the document's.
  Plan: What the functions of package plan return.
  PlanOf: What plan.Of returns.
  PlanNums: plan.Of with its numbers; plan.Pause; the document's May and Pause; the chapter's example.
-/
import Derived.Test.YtljdbaddockfcaaGreatProg
import Derived.Test.YtljdbaddockfcaaGreatBaseEtc
import Derived.IntWalk
import Derived.Test.YtljdbaddockfcaaGreatTameEtc
import Derived.Outline
import Derived.Lib.SmallJoins

namespace Go.Proofs.YtljdbaddockfcaaGreat.Pk
open Go.RowKit
set_option linter.unusedVariables false
set_option linter.unusedSimpArgs false

set_option maxHeartbeats 400000 in
theorem clamp_any (n lo hi : Int) (w : World) :
    Calls Tryz.prog 223 #[.int .i64 n, .int .i64 lo, .int .i64 hi] w fun e w' => e = .returned (.int .i64 (clampI n lo hi)) ∧ w = w' := by
  by_cases h1 : hi < n
  · go_enter Tryz.func223, Tryz.ntmps223
    go_wp2
    go_ret
    exact ⟨ret_int (by unfold clampI; rw [if_pos h1]), rfl⟩
  · by_cases h2 : n < lo
    · go_enter Tryz.func223, Tryz.ntmps223
      go_wp2
      go_ret
      exact ⟨ret_int (by unfold clampI; rw [if_neg (by omega), if_pos (by omega)]), rfl⟩
    · go_enter Tryz.func223, Tryz.ntmps223
      go_wp2
      go_ret
      exact ⟨ret_int (by unfold clampI; rw [if_neg (by omega), if_neg (by omega)]), rfl⟩

set_option maxHeartbeats 400000 in
theorem bounded_any (n : Int) (w : World) :
    Calls Tryz.prog 206 #[.int .i64 n] w fun e w' => e = .returned (.int .i64 (cnt n)) ∧ w = w' := by
  go_enter Tryz.func206, Tryz.ntmps206
  go_wp2_with fail
  refine (clamp_any _ _ _ _).mono ?_
  rintro e w1 ⟨rfl, rfl⟩
  go_wp2_with fail
  go_ret
  exact ⟨rfl, rfl⟩

set_option maxHeartbeats 400000 in
theorem divisor_any (n : Int) (w : World) :
    Calls Tryz.prog 209 #[.int .i64 n] w fun e w' => e = .returned (.int .i64 (byI n)) ∧ w = w' := by
  have hb := cnt_bd n
  by_cases h : cnt n < 1
  all_goals
    go_enter Tryz.func209, Tryz.ntmps209
    go_wp2_with fail
    refine (bounded_any _ _).mono ?_
    rintro e w1 ⟨rfl, rfl⟩
    go_wp2_with fail
    go_ret
    exact ⟨ret_int (by rw [byI_max]; omega), rfl⟩

set_option maxHeartbeats 400000 in
theorem times_any (a b : Int) (w : World) (ha : 0 ≤ a) (ha2 : a ≤ 1125899906842624) (hb : 0 ≤ b) (hb2 : b ≤ 1125899906842624) :
    Calls Tryz.prog 211 #[.int .i64 a, .int .i64 b] w fun e w' => e = .returned (.int .i64 (timesI a b)) ∧ w = w' := by
  by_cases h0 : 0 < b
  · by_cases h1 : 1125899906842624 / b < a
    · go_enter Tryz.func211, Tryz.ntmps211
      go_wp2
      go_ret
      exact ⟨ret_int (by unfold timesI; rw [if_pos ⟨h0, h1⟩]), rfl⟩
    · have e : timesI a b = a * b := by unfold timesI; rw [if_neg (fun h => h1 h.2)]
      have h2 := times_bd ha hb ha2 hb2
      rw [e] at h2
      have E := Lib.hid e
      clear e
      go_enter Tryz.func211, Tryz.ntmps211
      go_wp2
      go_ret
      exact ⟨ret_int (by rw [E.out]), rfl⟩
  · have h1 : b = 0 := by omega
    subst h1
    go_enter Tryz.func211, Tryz.ntmps211
    go_wp2
    go_ret
    exact ⟨ret_int (by unfold timesI; rw [if_neg (by omega)]; simp), rfl⟩

set_option maxHeartbeats 400000 in
theorem add_any (a : Option Addr) (cap : Nat) (zs : List Int) (w : World) (hrow : Row w .i64 a zs) (hlen : (zs.length : Int) ≤ 9223372036854775807) :
    Calls Tryz.prog 175 #[.slice a zs.length cap] w fun e w' => e = .returned (.int .i64 (addL zs)) ∧ w = w' := by
  go_enter Tryz.func175, Tryz.ntmps175
  go_wp2
  go_loop [3, 8] (fun t i => ∃ k : Nat, k ≤ zs.length ∧ i = .int .i64 k ∧ t = .int .i64 (addTo zs k)) (fun _ i => zs.length - (intOf i).toNat)
  case atStart => exact ⟨0, Nat.zero_le _, rfl, rfl⟩
  case round =>
    obtain ⟨k, hk, rfl, rfl⟩ := hrel
    have h1 := addTo_bd zs k
    have h2 := cnt_bd (nth zs k)
    by_cases hlt : k < zs.length
    · obtain ⟨b, off, rfl, hb, hc⟩ := hrow k hlt
      have HS := Lib.hid (addTo_succ hlt)
      go_wp2_with fail
      refine (bounded_any _ _).mono ?_
      rintro e w1 ⟨rfl, rfl⟩
      go_wp2_with fail
      refine (bounded_any _ _).mono ?_
      rintro e w1 ⟨rfl, rfl⟩
      go_wp2_with fail
      go_round
      case rel => exact ⟨k + 1, by omega, by go_num, by rw [HS.out]⟩
      case measure => simp [intOf]; omega
    · have e : k = zs.length := by omega
      have HE : Hid (addTo zs k = addL zs) := by rw [e, addTo_all]; exact rfl
      clear e
      go_wp2
      go_ret
      exact ⟨ret_int HE.out, rfl⟩

set_option maxHeartbeats 400000 in
theorem mul_any (a : Option Addr) (cap : Nat) (zs : List Int) (w : World) (hrow : Row w .i64 a zs) (hlen : (zs.length : Int) ≤ 9223372036854775807) :
    Calls Tryz.prog 182 #[.slice a zs.length cap] w fun e w' => e = .returned (.int .i64 (mulL zs)) ∧ w = w' := by
  go_enter Tryz.func182, Tryz.ntmps182
  go_wp2
  go_loop [3, 8] (fun t i => ∃ k : Nat, k ≤ zs.length ∧ i = .int .i64 k ∧ t = .int .i64 (mulTo zs k)) (fun _ i => zs.length - (intOf i).toNat)
  case atStart => exact ⟨0, Nat.zero_le _, rfl, rfl⟩
  case round =>
    obtain ⟨k, hk, rfl, rfl⟩ := hrel
    have h1 := mulTo_bd zs k
    have h2 := cnt_bd (nth zs k)
    by_cases hlt : k < zs.length
    · obtain ⟨b, off, rfl, hb, hc⟩ := hrow k hlt
      have HS := Lib.hid (mulTo_succ hlt)
      go_wp2_with fail
      refine (bounded_any _ _).mono ?_
      rintro e w1 ⟨rfl, rfl⟩
      go_wp2_with fail
      refine (times_any _ _ _ h1.1 h1.2 h2.1 h2.2).mono ?_
      rintro e w1 ⟨rfl, rfl⟩
      go_wp2_with fail
      go_round
      case rel => exact ⟨k + 1, by omega, by go_num, by rw [HS.out]⟩
      case measure => simp [intOf]; omega
    · have e : k = zs.length := by omega
      have HE : Hid (mulTo zs k = mulL zs) := by rw [e, mulTo_all]; exact rfl
      clear e
      go_wp2
      go_ret
      exact ⟨ret_int HE.out, rfl⟩

set_option maxHeartbeats 400000 in
theorem down_any (a b : Int) (w : World) :
    Calls Tryz.prog 203 #[.int .i64 a, .int .i64 b] w fun e w' => e = .returned (.int .i64 (downI a b)) ∧ w = w' := by
  have h1 := cnt_bd a
  have h2 := byI_bd b
  go_enter Tryz.func203, Tryz.ntmps203
  go_wp2_with (first | (go_at_call 206; refine (bounded_any _ _).mono ?_; rintro e w' ⟨rfl, rfl⟩) | (go_at_call 209; refine (divisor_any _ _).mono ?_; rintro e w' ⟨rfl, rfl⟩))
  go_ret
  exact ⟨ret_int rfl, rfl⟩

set_option maxHeartbeats 400000 in
theorem up_any (a b : Int) (w : World) :
    Calls Tryz.prog 178 #[.int .i64 a, .int .i64 b] w fun e w' => e = .returned (.int .i64 (upI a b)) ∧ w = w' := by
  have h1 := cnt_bd a
  have h2 := byI_bd b
  go_enter Tryz.func178, Tryz.ntmps178
  go_wp2_with (first | (go_at_call 206; refine (bounded_any _ _).mono ?_; rintro e w' ⟨rfl, rfl⟩) | (go_at_call 209; refine (divisor_any _ _).mono ?_; rintro e w' ⟨rfl, rfl⟩))
  go_ret
  exact ⟨ret_int rfl, rfl⟩

theorem bne_of {a b : Int} (h : a ≠ b) : (a == b) = false := by rw [beq_eq_false_iff_ne]; exact h

/-! ### The document's -/
/-! The document's product: nought if one of them is. -/
end Go.Proofs.YtljdbaddockfcaaGreat.Pk

namespace Go.Proofs.YtljdbaddockfcaaGreat.Pk
open Go.RowKit
set_option linter.unusedVariables false
set_option linter.unusedSimpArgs false

theorem eqIv {P : Program} {f : FuncId} {args : Array Value} {w : World} {a b : Int} (h : Calls P f args w fun e w' => e = .returned (.int .i64 a) ∧ w = w') (hab : a = b) :
    Calls P f args w fun e w' => e = .returned (.int .i64 b) ∧ w = w' := hab ▸ h
theorem mul2_lit (x y : Int) (w : World) (m : Nat) (h : m = w.heap.size) :
    Calls Tryz.prog 182 #[.slice (some ⟨m, 0, none⟩) 2 2] (w.alloc (.cells #[.int .i64 x, .int .i64 y] 3)) fun e w' => e = .returned (.int .i64 (mulL [x, y])) ∧ w.alloc (.cells #[.int .i64 x, .int .i64 y] 3) = w' := by
  subst h
  exact mul_any (some ⟨w.heap.size, 0, none⟩) 2 [x, y] _ (Row.lit w .i64 [x, y] 3) (by simp)
theorem add2_lit (x y : Int) (w : World) (m : Nat) (h : m = w.heap.size) :
    Calls Tryz.prog 175 #[.slice (some ⟨m, 0, none⟩) 2 2] (w.alloc (.cells #[.int .i64 x, .int .i64 y] 3)) fun e w' => e = .returned (.int .i64 (addL [x, y])) ∧ w.alloc (.cells #[.int .i64 x, .int .i64 y] 3) = w' := by
  subst h
  exact add_any (some ⟨w.heap.size, 0, none⟩) 2 [x, y] _ (Row.lit w .i64 [x, y] 3) (by simp)

set_option maxHeartbeats 400000 in
theorem within_yes (n lo hi : Int) (w : World) (h0 : lo ≤ n) (h1 : n ≤ hi) :
    Calls Tryz.prog 210 #[.int .i64 n, .int .i64 lo, .int .i64 hi] w fun e w' => e = .returned (.bool true) ∧ w = w' := by
  have E := Lib.hid (clamp_in h0 h1)
  go_enter Tryz.func210, Tryz.ntmps210
  go_wp2_with fail
  refine (eqIv (clamp_any _ _ _ _) E.out).mono ?_
  rintro e w1 ⟨rfl, rfl⟩
  go_wp2_with fail
  go_ret
  exact ⟨ret_bool (by simp), rfl⟩

set_option maxHeartbeats 400000 in
theorem within_no (n lo hi : Int) (w : World) (h : lo ≤ hi) (h1 : n < lo ∨ hi < n) :
    Calls Tryz.prog 210 #[.int .i64 n, .int .i64 lo, .int .i64 hi] w fun e w' => e = .returned (.bool false) ∧ w = w' := by
  have E : ((clampI n lo hi) == n) = false := bne_of (clamp_out h h1)
  clear h h1
  go_enter Tryz.func210, Tryz.ntmps210
  go_wp2_with fail
  refine (clamp_any _ _ _ _).mono ?_
  rintro e w1 ⟨rfl, rfl⟩
  go_wp2_with fail
  go_ret
  exact ⟨ret_bool (by simp [E]), rfl⟩

set_option maxHeartbeats 1000000 in
theorem check_yes (N W R K : Int) (w : World) (h : May N W R K) :
    Calls Tryz.prog 181 #[.agg #[.int .i64 N, .int .i64 W, .int .i64 R, .int .i64 K]] w fun e w' => e = .returned (.int .i64 0) ∧ Below w.heap.size w w' := by
  have hb := nw_bd h
  have E : Hid (mulL [N, W] = N * W) := Lib.hid (mul2_id (by have := h.n0; omega) (by have := h.w0; omega) (by have := h.n1; omega) (by have := h.w1; omega) (by omega))
  have hle : N * W ≤ 4194304 := hb.2
  generalize N * W = p at *
  obtain ⟨n0, n1, w0, w1, r0, r1, k0, k1, _⟩ := h
  clear hb
  go_enter Tryz.func181, Tryz.ntmps181
  go_wp2_with fail
  refine (within_yes _ _ _ _ n0 n1).mono ?_
  rintro e w1 ⟨rfl, rfl⟩
  go_wp2_with fail
  refine (within_yes _ _ _ _ w0 w1).mono ?_
  rintro e w1 ⟨rfl, rfl⟩
  go_wp2_with fail
  refine (within_yes _ _ _ _ r0 r1).mono ?_
  rintro e w1 ⟨rfl, rfl⟩
  go_wp2_with fail
  refine (within_yes _ _ _ _ k0 k1).mono ?_
  rintro e w1 ⟨rfl, rfl⟩
  go_wp2_with fail
  refine (eqIv (mul2_lit _ _ _ _ (by simp)) E.out).mono ?_
  rintro e w1 ⟨rfl, rfl⟩
  go_wp2_with fail
  go_ret
  exact ⟨rfl, (below_new _ _).alloc (by simp) _⟩
set_option maxHeartbeats 1000000 in
theorem check_no0 (N W R K : Int) (w : World) (hx : N < 1 ∨ 1048576 < N) :
    Calls Tryz.prog 181 #[.agg #[.int .i64 N, .int .i64 W, .int .i64 R, .int .i64 K]] w fun e w' => e = .returned (.int .i64 1) ∧ Below w.heap.size w w' := by
  have HX := Lib.hid hx
  clear hx
  go_enter Tryz.func181, Tryz.ntmps181
  go_wp2_with fail
  refine (within_no _ _ _ _ (by decide) HX.out).mono ?_
  rintro e w1 ⟨rfl, rfl⟩
  go_wp2_with fail
  go_ret
  exact ⟨rfl, below_new _ _⟩

set_option maxHeartbeats 1000000 in
theorem check_no1 (N W R K : Int) (w : World) (n0 : 1 ≤ N) (n1 : N ≤ 1048576) (hx : W < 16 ∨ 256 < W) :
    Calls Tryz.prog 181 #[.agg #[.int .i64 N, .int .i64 W, .int .i64 R, .int .i64 K]] w fun e w' => e = .returned (.int .i64 1) ∧ Below w.heap.size w w' := by
  have HX := Lib.hid hx
  clear hx
  go_enter Tryz.func181, Tryz.ntmps181
  go_wp2_with fail
  refine (within_yes _ _ _ _ n0 n1).mono ?_
  rintro e w1 ⟨rfl, rfl⟩
  go_wp2_with fail
  refine (within_no _ _ _ _ (by decide) HX.out).mono ?_
  rintro e w1 ⟨rfl, rfl⟩
  go_wp2_with fail
  go_ret
  exact ⟨rfl, below_new _ _⟩

set_option maxHeartbeats 1000000 in
theorem check_no2 (N W R K : Int) (w : World) (n0 : 1 ≤ N) (n1 : N ≤ 1048576) (w0 : 16 ≤ W) (w1 : W ≤ 256) (hx : R < 1 ∨ 4096 < R) :
    Calls Tryz.prog 181 #[.agg #[.int .i64 N, .int .i64 W, .int .i64 R, .int .i64 K]] w fun e w' => e = .returned (.int .i64 1) ∧ Below w.heap.size w w' := by
  have HX := Lib.hid hx
  clear hx
  go_enter Tryz.func181, Tryz.ntmps181
  go_wp2_with fail
  refine (within_yes _ _ _ _ n0 n1).mono ?_
  rintro e w1 ⟨rfl, rfl⟩
  go_wp2_with fail
  refine (within_yes _ _ _ _ w0 w1).mono ?_
  rintro e w1 ⟨rfl, rfl⟩
  go_wp2_with fail
  refine (within_no _ _ _ _ (by decide) HX.out).mono ?_
  rintro e w1 ⟨rfl, rfl⟩
  go_wp2_with fail
  go_ret
  exact ⟨rfl, below_new _ _⟩

set_option maxHeartbeats 1000000 in
theorem check_no3 (N W R K : Int) (w : World) (n0 : 1 ≤ N) (n1 : N ≤ 1048576) (w0 : 16 ≤ W) (w1 : W ≤ 256) (r0 : 1 ≤ R) (r1 : R ≤ 4096) (hx : K < 1 ∨ 65536 < K) :
    Calls Tryz.prog 181 #[.agg #[.int .i64 N, .int .i64 W, .int .i64 R, .int .i64 K]] w fun e w' => e = .returned (.int .i64 1) ∧ Below w.heap.size w w' := by
  have HX := Lib.hid hx
  clear hx
  go_enter Tryz.func181, Tryz.ntmps181
  go_wp2_with fail
  refine (within_yes _ _ _ _ n0 n1).mono ?_
  rintro e w1 ⟨rfl, rfl⟩
  go_wp2_with fail
  refine (within_yes _ _ _ _ w0 w1).mono ?_
  rintro e w1 ⟨rfl, rfl⟩
  go_wp2_with fail
  refine (within_yes _ _ _ _ r0 r1).mono ?_
  rintro e w1 ⟨rfl, rfl⟩
  go_wp2_with fail
  refine (within_no _ _ _ _ (by decide) HX.out).mono ?_
  rintro e w1 ⟨rfl, rfl⟩
  go_wp2_with fail
  go_ret
  exact ⟨rfl, below_new _ _⟩

set_option maxHeartbeats 1000000 in
theorem check_no4 (N W R K : Int) (w : World) (n0 : 1 ≤ N) (n1 : N ≤ 1048576) (w0 : 16 ≤ W) (w1 : W ≤ 256) (r0 : 1 ≤ R) (r1 : R ≤ 4096) (k0 : 1 ≤ K) (k1 : K ≤ 65536) (hx : 4194304 < N * W) :
    Calls Tryz.prog 181 #[.agg #[.int .i64 N, .int .i64 W, .int .i64 R, .int .i64 K]] w fun e w' => e = .returned (.int .i64 1) ∧ Below w.heap.size w w' := by
  have hm := mul_le_of (a := N) (b := W) (by omega) (by omega) n1 w1
  have E : Hid (mulL [N, W] = N * W) := Lib.hid (mul2_id (by omega) (by omega) (by omega) (by omega) (by omega))
  generalize N * W = q at *
  clear hm
  go_enter Tryz.func181, Tryz.ntmps181
  go_wp2_with fail
  refine (within_yes _ _ _ _ n0 n1).mono ?_
  rintro e w1 ⟨rfl, rfl⟩
  go_wp2_with fail
  refine (within_yes _ _ _ _ w0 w1).mono ?_
  rintro e w1 ⟨rfl, rfl⟩
  go_wp2_with fail
  refine (within_yes _ _ _ _ r0 r1).mono ?_
  rintro e w1 ⟨rfl, rfl⟩
  go_wp2_with fail
  refine (within_yes _ _ _ _ k0 k1).mono ?_
  rintro e w1 ⟨rfl, rfl⟩
  go_wp2_with fail
  refine (eqIv (mul2_lit _ _ _ _ (by simp)) E.out).mono ?_
  rintro e w1 ⟨rfl, rfl⟩
  go_wp2_with fail
  go_ret
  exact ⟨rfl, (below_new _ _).alloc (by simp) _⟩

theorem check_no (N W R K : Int) (w : World) (h : mayB N W R K = false) :
    Calls Tryz.prog 181 #[.agg #[.int .i64 N, .int .i64 W, .int .i64 R, .int .i64 K]] w fun e w' => e = .returned (.int .i64 1) ∧ Below w.heap.size w w' := by
  have h := not_may h
  by_cases hn : N < 1 ∨ 1048576 < N
  · exact check_no0 N W R K w hn
  · by_cases hw : W < 16 ∨ 256 < W
    · exact check_no1 N W R K w (by omega) (by omega) hw
    · by_cases hr : R < 1 ∨ 4096 < R
      · exact check_no2 N W R K w (by omega) (by omega) (by omega) (by omega) hr
      · by_cases hk : K < 1 ∨ 65536 < K
        · exact check_no3 N W R K w (by omega) (by omega) (by omega) (by omega) (by omega) (by omega) hk
        · refine check_no4 N W R K w (by omega) (by omega) (by omega) (by omega) (by omega) (by omega) (by omega) (by omega) ?_
          by_cases hp : 4194304 < N * W
          · exact hp
          · exact absurd ⟨by omega, by omega, by omega, by omega, by omega, by omega, by omega, by omega, by omega⟩ h

end Go.Proofs.YtljdbaddockfcaaGreat.Pk

namespace Go.Proofs.YtljdbaddockfcaaGreat.Pk
open Go.RowKit
set_option linter.unusedVariables false
set_option linter.unusedSimpArgs false

set_option maxHeartbeats 400000 in
theorem of_no (N W R K : Int) (w : World) (h : mayB N W R K = false) :
    Calls Tryz.prog 134 #[.agg #[.int .i64 N, .int .i64 W, .int .i64 R, .int .i64 K]] w fun e w' => e = .returned (.tuple #[.agg #[.int .i64 0, .int .i64 0, .int .i64 0, .int .i64 0, .int .i64 0, .int .i64 0, .int .i64 0, .int .i64 0], .int .i64 1]) ∧ Below w.heap.size w w' := by
  have HX := Lib.hid h
  clear h
  go_enter Tryz.func134, Tryz.ntmps134
  go_wp2_with fail
  refine (check_no _ _ _ _ _ HX.out).mono ?_
  rintro e w1 ⟨rfl, hb⟩
  obtain ⟨hc, hf⟩ := bcell hb
  have hz : w.heap.size + 1 < w1.heap.size := by have := hb.size; simp at this; omega
  have HB := Lib.hid hb
  clear hb
  go_wp2_with fail
  exact bodyPost_ret (v := .tuple #[.agg #[.int .i64 0, .int .i64 0, .int .i64 0, .int .i64 0, .int .i64 0, .int .i64 0, .int .i64 0, .int .i64 0], .int .i64 1]) (by simp [results, Tryz.results134, go_sem, hc, hz]) rfl ⟨rfl, by
    repeat refine Below.setCell ?_ (by simp) _
    exact ((below_new w _).alloc (by simp) _).trans (HB.out.mono (by simp; omega))⟩

set_option maxRecDepth 100000 in
set_option maxHeartbeats 4000000 in
theorem of_walk (N W R K wp1 d d3 ep nw words fields u1 u2 b2 lag e2 s1 u3 settle : Int) (w : World) (HX : Hid (May N W R K)) (w0 : 16 ≤ W) (w1b : W ≤ 256)
    (E1 : Hid (addL [W - 8, 1] = W - 7)) (E2 : Hid (addL [W, 1] = wp1)) (E3 : Hid (mulL [N, wp1] = d)) (E4 : Hid (mulL [3, d] = d3)) (E5 : Hid (addL [d3, 4] = ep)) (E6 : Hid (mulL [N, W] = nw)) (E7 : Hid (addL [24, R, nw] = words))
    (E8 : Hid (mulL [W - 8, W - 1] = fields)) (E9 : Hid (upI ep K = u1)) (E10 : Hid (mulL [2, u1] = u2)) (E11 : Hid (mulL [2, W - 7] = b2)) (E12 : Hid (addL [u2, b2] = lag)) (E13 : Hid (mulL [2, ep] = e2)) (E14 : Hid (addL [e2, d] = s1)) (E15 : Hid (upI s1 K = u3)) (E16 : Hid (addL [u3, 2] = settle)) :
    Calls Tryz.prog 134 #[.agg #[.int .i64 N, .int .i64 W, .int .i64 R, .int .i64 K]] w fun e w' => e = .returned (.tuple #[.agg #[.int .i64 words, .int .i64 (W - 8), .int .i64 (W - 7), .int .i64 fields, .int .i64 ep, .int .i64 d, .int .i64 lag, .int .i64 settle], .int .i64 0]) ∧ Below w.heap.size w w' := by
  go_enter Tryz.func134, Tryz.ntmps134
  go_wp2_with fail
  refine (check_yes _ _ _ _ _ HX.out).mono ?_
  rintro e w1 ⟨rfl, hb⟩
  obtain ⟨hc, hf⟩ := bcell hb
  have hz : w.heap.size + 1 < w1.heap.size := by have := hb.size; simp at this; omega
  have HB := Lib.hid hb
  clear hb
  go_wp2_with fail
  refine (eqIv (add2_lit _ _ _ _ (by simp)) E1.out).mono ?_
  rintro e w2 ⟨rfl, rfl⟩
  go_wp2_with fail
  have HB2 := Lib.hid (HB.out.trans ((below_new w1 (.cells #[.int .i64 (W - 8), .int .i64 1] 3)).mono HB.out.size))
  clear HB hc hf
  have c0 := fun w' (hC : Below _ _ w') => (((HB2.out.trans (Below.mono hC HB2.out.size)).cell (p := ⟨w.heap.size, 0, none⟩) (by simp; omega)).trans (show _ = some (.int .i64 N) by go_simp))
  have c1 := fun w' (hC : Below _ _ w') => (((HB2.out.trans (Below.mono hC HB2.out.size)).cell (p := ⟨w.heap.size, 1, none⟩) (by simp; omega)).trans (show _ = some (.int .i64 W) by go_simp))
  have c2 := fun w' (hC : Below _ _ w') => (((HB2.out.trans (Below.mono hC HB2.out.size)).cell (p := ⟨w.heap.size, 2, none⟩) (by simp; omega)).trans (show _ = some (.int .i64 R) by go_simp))
  have c3 := fun w' (hC : Below _ _ w') => (((HB2.out.trans (Below.mono hC HB2.out.size)).cell (p := ⟨w.heap.size, 3, none⟩) (by simp; omega)).trans (show _ = some (.int .i64 K) by go_simp))
  refine wp_region_tame_all [Fact.is (.pointer (some ⟨w.heap.size, 0, none⟩)), Fact.is (.int .i64 N), Fact.is (.pointer (some ⟨w.heap.size, 1, none⟩)), Fact.is (.int .i64 W), Fact.row .i64 [W, 1], Fact.is (.int .i64 wp1), Fact.row .i64 [N, wp1], Fact.is (.int .i64 d), Fact.is (.int .i64 d)] (by kernel_rfl) (by kernel_rfl) rfl (by kernel_rfl) (fun ops K2 _ hK => ?_)
  refine walkT_is (wantedN rfl) (fun w' hC hd => tame_1 1 (.pointer (some ⟨w.heap.size, 0, none⟩)) rfl (fun ρ hρ hf e0 => upon_is (by go_simp))) (by go_frame; rfl) (by simp only [List.nil_append, List.cons_append]; rfl) ?_
  refine walkT_is (wantedN rfl) (fun w' hC hd => tame_1 21 (.pointer (some ⟨w.heap.size, 0, none⟩)) rfl (fun ρ hρ hf e0 => upon_is (by have hc0 := c0 w' hC; go_simp))) (by go_frame; rfl) (by simp only [List.nil_append, List.cons_append]; rfl) ?_
  refine walkT_is (wantedN rfl) (fun w' hC hd => tame_1 1 (.pointer (some ⟨w.heap.size, 0, none⟩)) rfl (fun ρ hρ hf e0 => upon_is (by go_simp))) (by go_frame; rfl) (by simp only [List.nil_append, List.cons_append]; rfl) ?_
  refine walkT_is (wantedN rfl) (fun w' hC hd => tame_1 23 (.pointer (some ⟨w.heap.size, 1, none⟩)) rfl (fun ρ hρ hf e0 => upon_is (by have hc0 := c1 w' hC; go_simp))) (by go_frame; rfl) (by simp only [List.nil_append, List.cons_append]; rfl) ?_
  refine walkT_row (wantedN rfl) (n := 2) rfl (fun w' hC hd => tame_1 24 (.int .i64 W) rfl (fun ρ hρ hf e0 => upon_row (t := 3) (cap := 2) (by go_simp))) (fun ad cap => (by go_frame; rfl)) (fun ad => (by simp only [List.nil_append, List.cons_append]; rfl)) (fun ad4 cap4 => ?_)
  refine walkT_is (wantedN rfl) (fun w' hC hd => ?_) (by go_frame; rfl) (by simp only [List.nil_append, List.cons_append]; rfl) ?_
  · have hr : Row w' .i64 ad4 [W, 1] := hd 4 (by kernel_rfl)
    exact tame_1 25 (.slice ad4 2 cap4) rfl (fun ρ hρ hf e1 => upon_call (f := 175) (by go_simp) (eqIv (add_any ad4 cap4 [W, 1] w' hr (by simp)) E2.out))
  refine walkT_row (wantedN rfl) (n := 2) rfl (fun w' hC hd => tame_2 22 (.int .i64 N) 26 (.int .i64 wp1) rfl rfl (fun ρ hρ hf e0 e1 => upon_row (t := 3) (cap := 2) (by go_simp))) (fun ad cap => (by go_frame; rfl)) (fun ad => (by simp only [List.nil_append, List.cons_append]; rfl)) (fun ad6 cap6 => ?_)
  refine walkT_is (wantedN rfl) (fun w' hC hd => ?_) (by go_frame; rfl) (by simp only [List.nil_append, List.cons_append]; rfl) ?_
  · have hr : Row w' .i64 ad6 [N, wp1] := hd 6 (by kernel_rfl)
    exact tame_1 27 (.slice ad6 2 cap6) rfl (fun ρ hρ hf e1 => upon_call (f := 182) (by go_simp) (eqIv (mul_any ad6 cap6 [N, wp1] w' hr (by simp)) E3.out))
  refine walkT_is (wantedN rfl) (fun w' hC hd => tame_move _ (.inr rfl) rfl) (by go_frame; rfl) (by simp only [List.nil_append, List.cons_append]; rfl) ?_
  refine walkT_nil fun w3 hC3 _ => hK _ _ ?_
  have HB3 := Lib.hid (HB2.out.trans (hC3.mono HB2.out.size))
  clear c0 c1 c2 c3 HB2 hC3
  go_wp2_with fail
  refine (eqIv (mul2_lit _ _ _ _ (by simp)) E4.out).mono ?_
  rintro e w4 ⟨rfl, rfl⟩
  go_wp2_with fail
  refine (eqIv (add2_lit _ _ _ _ (by simp)) E5.out).mono ?_
  rintro e w4 ⟨rfl, rfl⟩
  go_wp2_with fail
  have HB4 := Lib.hid (HB3.out.trans (((below_new w3 (.cells #[.int .i64 3, .int .i64 d] 3)).alloc (by simp) (.cells #[.int .i64 d3, .int .i64 4] 3)).mono HB3.out.size))
  clear HB3
  have hwr : IntKind.i64.wrap (W - 1) = W - 1 := IntWalk.i64_in _ (by omega)
  have c0 := fun w' (hC : Below _ _ w') => (((HB4.out.trans (Below.mono hC HB4.out.size)).cell (p := ⟨w.heap.size, 0, none⟩) (by simp; omega)).trans (show _ = some (.int .i64 N) by go_simp))
  have c1 := fun w' (hC : Below _ _ w') => (((HB4.out.trans (Below.mono hC HB4.out.size)).cell (p := ⟨w.heap.size, 1, none⟩) (by simp; omega)).trans (show _ = some (.int .i64 W) by go_simp))
  have c2 := fun w' (hC : Below _ _ w') => (((HB4.out.trans (Below.mono hC HB4.out.size)).cell (p := ⟨w.heap.size, 2, none⟩) (by simp; omega)).trans (show _ = some (.int .i64 R) by go_simp))
  have c3 := fun w' (hC : Below _ _ w') => (((HB4.out.trans (Below.mono hC HB4.out.size)).cell (p := ⟨w.heap.size, 3, none⟩) (by simp; omega)).trans (show _ = some (.int .i64 K) by go_simp))
  refine wp_region_tame_tail [Fact.is (.pointer (some ⟨w.heap.size, 2, none⟩)), Fact.is (.int .i64 R), Fact.is (.pointer (some ⟨w.heap.size, 0, none⟩)), Fact.is (.int .i64 N), Fact.is (.pointer (some ⟨w.heap.size, 1, none⟩)), Fact.is (.int .i64 W), Fact.row .i64 [N, W], Fact.is (.int .i64 nw), Fact.row .i64 [24, R, nw], Fact.is (.int .i64 words), Fact.is (.int .i64 (W - 8)), Fact.is (.int .i64 (W - 7)), Fact.is (.int .i64 (W - 8)), Fact.is (.pointer (some ⟨w.heap.size, 1, none⟩)), Fact.is (.int .i64 W), Fact.is (.int .i64 (W - 1)), Fact.row .i64 [W - 8, W - 1], Fact.is (.int .i64 fields), Fact.is (.int .i64 ep), Fact.is (.int .i64 d), Fact.is (.int .i64 ep), Fact.is (.pointer (some ⟨w.heap.size, 3, none⟩)), Fact.is (.int .i64 K), Fact.is (.int .i64 u1), Fact.row .i64 [2, u1], Fact.is (.int .i64 u2), Fact.is (.int .i64 (W - 7)), Fact.row .i64 [2, W - 7], Fact.is (.int .i64 b2), Fact.row .i64 [u2, b2], Fact.is (.int .i64 lag), Fact.is (.int .i64 ep), Fact.row .i64 [2, ep], Fact.is (.int .i64 e2), Fact.is (.int .i64 d), Fact.row .i64 [e2, d], Fact.is (.int .i64 s1), Fact.is (.pointer (some ⟨w.heap.size, 3, none⟩)), Fact.is (.int .i64 K), Fact.is (.int .i64 u3), Fact.row .i64 [u3, 2], Fact.is (.int .i64 settle), Fact.is (.agg #[.int .i64 words, .int .i64 (W - 8), .int .i64 (W - 7), .int .i64 fields, .int .i64 ep, .int .i64 d, .int .i64 lag, .int .i64 settle])] (by kernel_rfl) (by kernel_rfl) (by kernel_rfl) (fun ops K2 _ hK => ?_)
  refine walkT_is (wantedN rfl) (fun w' hC hd => tame_1 1 (.pointer (some ⟨w.heap.size, 0, none⟩)) rfl (fun ρ hρ hf e0 => upon_is (by go_simp))) (by go_frame; rfl) (by simp only [List.nil_append, List.cons_append]; rfl) ?_
  refine walkT_is (wantedN rfl) (fun w' hC hd => tame_1 34 (.pointer (some ⟨w.heap.size, 2, none⟩)) rfl (fun ρ hρ hf e0 => upon_is (by have hc0 := c2 w' hC; go_simp))) (by go_frame; rfl) (by simp only [List.nil_append, List.cons_append]; rfl) ?_
  refine walkT_is (wantedN rfl) (fun w' hC hd => tame_1 1 (.pointer (some ⟨w.heap.size, 0, none⟩)) rfl (fun ρ hρ hf e0 => upon_is (by go_simp))) (by go_frame; rfl) (by simp only [List.nil_append, List.cons_append]; rfl) ?_
  refine walkT_is (wantedN rfl) (fun w' hC hd => tame_1 36 (.pointer (some ⟨w.heap.size, 0, none⟩)) rfl (fun ρ hρ hf e0 => upon_is (by have hc0 := c0 w' hC; go_simp))) (by go_frame; rfl) (by simp only [List.nil_append, List.cons_append]; rfl) ?_
  refine walkT_is (wantedN rfl) (fun w' hC hd => tame_1 1 (.pointer (some ⟨w.heap.size, 0, none⟩)) rfl (fun ρ hρ hf e0 => upon_is (by go_simp))) (by go_frame; rfl) (by simp only [List.nil_append, List.cons_append]; rfl) ?_
  refine walkT_is (wantedN rfl) (fun w' hC hd => tame_1 38 (.pointer (some ⟨w.heap.size, 1, none⟩)) rfl (fun ρ hρ hf e0 => upon_is (by have hc0 := c1 w' hC; go_simp))) (by go_frame; rfl) (by simp only [List.nil_append, List.cons_append]; rfl) ?_
  refine walkT_row (wantedN rfl) (n := 2) rfl (fun w' hC hd => tame_2 37 (.int .i64 N) 39 (.int .i64 W) rfl rfl (fun ρ hρ hf e0 e1 => upon_row (t := 3) (cap := 2) (by go_simp))) (fun ad cap => (by go_frame; rfl)) (fun ad => (by simp only [List.nil_append, List.cons_append]; rfl)) (fun ad6 cap6 => ?_)
  refine walkT_is (wantedN rfl) (fun w' hC hd => ?_) (by go_frame; rfl) (by simp only [List.nil_append, List.cons_append]; rfl) ?_
  · have hr : Row w' .i64 ad6 [N, W] := hd 6 (by kernel_rfl)
    exact tame_1 40 (.slice ad6 2 cap6) rfl (fun ρ hρ hf e1 => upon_call (f := 182) (by go_simp) (eqIv (mul_any ad6 cap6 [N, W] w' hr (by simp)) E6.out))
  refine walkT_row (wantedN rfl) (n := 3) rfl (fun w' hC hd => tame_2 35 (.int .i64 R) 41 (.int .i64 nw) rfl rfl (fun ρ hρ hf e0 e1 => upon_row (t := 3) (cap := 3) (by go_simp))) (fun ad cap => (by go_frame; rfl)) (fun ad => (by simp only [List.nil_append, List.cons_append]; rfl)) (fun ad8 cap8 => ?_)
  refine walkT_is (wantedN rfl) (fun w' hC hd => ?_) (by go_frame; rfl) (by simp only [List.nil_append, List.cons_append]; rfl) ?_
  · have hr : Row w' .i64 ad8 [24, R, nw] := hd 8 (by kernel_rfl)
    exact tame_1 42 (.slice ad8 3 cap8) rfl (fun ρ hρ hf e1 => upon_call (f := 175) (by go_simp) (eqIv (add_any ad8 cap8 [24, R, nw] w' hr (by simp)) E7.out))
  refine walkT_is (wantedN rfl) (fun w' hC hd => tame_move _ (.inl rfl) rfl) (by go_frame; rfl) (by simp only [List.nil_append, List.cons_append]; rfl) ?_
  refine walkT_is (wantedN rfl) (fun w' hC hd => tame_move _ (.inl rfl) rfl) (by go_frame; rfl) (by simp only [List.nil_append, List.cons_append]; rfl) ?_
  refine walkT_is (wantedN rfl) (fun w' hC hd => tame_move _ (.inl rfl) rfl) (by go_frame; rfl) (by simp only [List.nil_append, List.cons_append]; rfl) ?_
  refine walkT_is (wantedN rfl) (fun w' hC hd => tame_1 1 (.pointer (some ⟨w.heap.size, 0, none⟩)) rfl (fun ρ hρ hf e0 => upon_is (by go_simp))) (by go_frame; rfl) (by simp only [List.nil_append, List.cons_append]; rfl) ?_
  refine walkT_is (wantedN rfl) (fun w' hC hd => tame_1 47 (.pointer (some ⟨w.heap.size, 1, none⟩)) rfl (fun ρ hρ hf e0 => upon_is (by have hc0 := c1 w' hC; go_simp))) (by go_frame; rfl) (by simp only [List.nil_append, List.cons_append]; rfl) ?_
  refine walkT_is (wantedN rfl) (fun w' hC hd => tame_1 48 (.int .i64 W) rfl (fun ρ hρ hf e0 => upon_is (by have hb0 := hwr; go_simp))) (by go_frame; rfl) (by simp only [List.nil_append, List.cons_append]; rfl) ?_
  refine walkT_row (wantedN rfl) (n := 2) rfl (fun w' hC hd => tame_2 46 (.int .i64 (W - 8)) 49 (.int .i64 (W - 1)) rfl rfl (fun ρ hρ hf e0 e1 => upon_row (t := 3) (cap := 2) (by go_simp))) (fun ad cap => (by go_frame; rfl)) (fun ad => (by simp only [List.nil_append, List.cons_append]; rfl)) (fun ad16 cap16 => ?_)
  refine walkT_is (wantedN rfl) (fun w' hC hd => ?_) (by go_frame; rfl) (by simp only [List.nil_append, List.cons_append]; rfl) ?_
  · have hr : Row w' .i64 ad16 [W - 8, W - 1] := hd 16 (by kernel_rfl)
    exact tame_1 50 (.slice ad16 2 cap16) rfl (fun ρ hρ hf e1 => upon_call (f := 182) (by go_simp) (eqIv (mul_any ad16 cap16 [W - 8, W - 1] w' hr (by simp)) E8.out))
  refine walkT_is (wantedN rfl) (fun w' hC hd => tame_move _ (.inl rfl) rfl) (by go_frame; rfl) (by simp only [List.nil_append, List.cons_append]; rfl) ?_
  refine walkT_is (wantedN rfl) (fun w' hC hd => tame_move _ (.inl rfl) rfl) (by go_frame; rfl) (by simp only [List.nil_append, List.cons_append]; rfl) ?_
  refine walkT_is (wantedN rfl) (fun w' hC hd => tame_move _ (.inl rfl) rfl) (by go_frame; rfl) (by simp only [List.nil_append, List.cons_append]; rfl) ?_
  refine walkT_is (wantedN rfl) (fun w' hC hd => tame_1 1 (.pointer (some ⟨w.heap.size, 0, none⟩)) rfl (fun ρ hρ hf e0 => upon_is (by go_simp))) (by go_frame; rfl) (by simp only [List.nil_append, List.cons_append]; rfl) ?_
  refine walkT_is (wantedN rfl) (fun w' hC hd => tame_1 55 (.pointer (some ⟨w.heap.size, 3, none⟩)) rfl (fun ρ hρ hf e0 => upon_is (by have hc0 := c3 w' hC; go_simp))) (by go_frame; rfl) (by simp only [List.nil_append, List.cons_append]; rfl) ?_
  refine walkT_is (wantedN rfl) (fun w' hC hd => tame_2 54 (.int .i64 ep) 56 (.int .i64 K) rfl rfl (fun ρ hρ hf e0 e1 => upon_call (f := 178) (by go_simp) (eqIv (up_any _ _ _) E9.out))) (by go_frame; rfl) (by simp only [List.nil_append, List.cons_append]; rfl) ?_
  refine walkT_row (wantedN rfl) (n := 2) rfl (fun w' hC hd => tame_1 57 (.int .i64 u1) rfl (fun ρ hρ hf e0 => upon_row (t := 3) (cap := 2) (by go_simp))) (fun ad cap => (by go_frame; rfl)) (fun ad => (by simp only [List.nil_append, List.cons_append]; rfl)) (fun ad24 cap24 => ?_)
  refine walkT_is (wantedN rfl) (fun w' hC hd => ?_) (by go_frame; rfl) (by simp only [List.nil_append, List.cons_append]; rfl) ?_
  · have hr : Row w' .i64 ad24 [2, u1] := hd 24 (by kernel_rfl)
    exact tame_1 58 (.slice ad24 2 cap24) rfl (fun ρ hρ hf e1 => upon_call (f := 182) (by go_simp) (eqIv (mul_any ad24 cap24 [2, u1] w' hr (by simp)) E10.out))
  refine walkT_is (wantedN rfl) (fun w' hC hd => tame_move _ (.inl rfl) rfl) (by go_frame; rfl) (by simp only [List.nil_append, List.cons_append]; rfl) ?_
  refine walkT_row (wantedN rfl) (n := 2) rfl (fun w' hC hd => tame_1 60 (.int .i64 (W - 7)) rfl (fun ρ hρ hf e0 => upon_row (t := 3) (cap := 2) (by go_simp))) (fun ad cap => (by go_frame; rfl)) (fun ad => (by simp only [List.nil_append, List.cons_append]; rfl)) (fun ad27 cap27 => ?_)
  refine walkT_is (wantedN rfl) (fun w' hC hd => ?_) (by go_frame; rfl) (by simp only [List.nil_append, List.cons_append]; rfl) ?_
  · have hr : Row w' .i64 ad27 [2, W - 7] := hd 27 (by kernel_rfl)
    exact tame_1 61 (.slice ad27 2 cap27) rfl (fun ρ hρ hf e1 => upon_call (f := 182) (by go_simp) (eqIv (mul_any ad27 cap27 [2, W - 7] w' hr (by simp)) E11.out))
  refine walkT_row (wantedN rfl) (n := 2) rfl (fun w' hC hd => tame_2 59 (.int .i64 u2) 62 (.int .i64 b2) rfl rfl (fun ρ hρ hf e0 e1 => upon_row (t := 3) (cap := 2) (by go_simp))) (fun ad cap => (by go_frame; rfl)) (fun ad => (by simp only [List.nil_append, List.cons_append]; rfl)) (fun ad29 cap29 => ?_)
  refine walkT_is (wantedN rfl) (fun w' hC hd => ?_) (by go_frame; rfl) (by simp only [List.nil_append, List.cons_append]; rfl) ?_
  · have hr : Row w' .i64 ad29 [u2, b2] := hd 29 (by kernel_rfl)
    exact tame_1 63 (.slice ad29 2 cap29) rfl (fun ρ hρ hf e1 => upon_call (f := 175) (by go_simp) (eqIv (add_any ad29 cap29 [u2, b2] w' hr (by simp)) E12.out))
  refine walkT_is (wantedN rfl) (fun w' hC hd => tame_move _ (.inl rfl) rfl) (by go_frame; rfl) (by simp only [List.nil_append, List.cons_append]; rfl) ?_
  refine walkT_row (wantedN rfl) (n := 2) rfl (fun w' hC hd => tame_1 65 (.int .i64 ep) rfl (fun ρ hρ hf e0 => upon_row (t := 3) (cap := 2) (by go_simp))) (fun ad cap => (by go_frame; rfl)) (fun ad => (by simp only [List.nil_append, List.cons_append]; rfl)) (fun ad32 cap32 => ?_)
  refine walkT_is (wantedN rfl) (fun w' hC hd => ?_) (by go_frame; rfl) (by simp only [List.nil_append, List.cons_append]; rfl) ?_
  · have hr : Row w' .i64 ad32 [2, ep] := hd 32 (by kernel_rfl)
    exact tame_1 66 (.slice ad32 2 cap32) rfl (fun ρ hρ hf e1 => upon_call (f := 182) (by go_simp) (eqIv (mul_any ad32 cap32 [2, ep] w' hr (by simp)) E13.out))
  refine walkT_is (wantedN rfl) (fun w' hC hd => tame_move _ (.inl rfl) rfl) (by go_frame; rfl) (by simp only [List.nil_append, List.cons_append]; rfl) ?_
  refine walkT_row (wantedN rfl) (n := 2) rfl (fun w' hC hd => tame_2 67 (.int .i64 e2) 68 (.int .i64 d) rfl rfl (fun ρ hρ hf e0 e1 => upon_row (t := 3) (cap := 2) (by go_simp))) (fun ad cap => (by go_frame; rfl)) (fun ad => (by simp only [List.nil_append, List.cons_append]; rfl)) (fun ad35 cap35 => ?_)
  refine walkT_is (wantedN rfl) (fun w' hC hd => ?_) (by go_frame; rfl) (by simp only [List.nil_append, List.cons_append]; rfl) ?_
  · have hr : Row w' .i64 ad35 [e2, d] := hd 35 (by kernel_rfl)
    exact tame_1 69 (.slice ad35 2 cap35) rfl (fun ρ hρ hf e1 => upon_call (f := 175) (by go_simp) (eqIv (add_any ad35 cap35 [e2, d] w' hr (by simp)) E14.out))
  refine walkT_is (wantedN rfl) (fun w' hC hd => tame_1 1 (.pointer (some ⟨w.heap.size, 0, none⟩)) rfl (fun ρ hρ hf e0 => upon_is (by go_simp))) (by go_frame; rfl) (by simp only [List.nil_append, List.cons_append]; rfl) ?_
  refine walkT_is (wantedN rfl) (fun w' hC hd => tame_1 71 (.pointer (some ⟨w.heap.size, 3, none⟩)) rfl (fun ρ hρ hf e0 => upon_is (by have hc0 := c3 w' hC; go_simp))) (by go_frame; rfl) (by simp only [List.nil_append, List.cons_append]; rfl) ?_
  refine walkT_is (wantedN rfl) (fun w' hC hd => tame_2 70 (.int .i64 s1) 72 (.int .i64 K) rfl rfl (fun ρ hρ hf e0 e1 => upon_call (f := 178) (by go_simp) (eqIv (up_any _ _ _) E15.out))) (by go_frame; rfl) (by simp only [List.nil_append, List.cons_append]; rfl) ?_
  refine walkT_row (wantedN rfl) (n := 2) rfl (fun w' hC hd => tame_1 73 (.int .i64 u3) rfl (fun ρ hρ hf e0 => upon_row (t := 3) (cap := 2) (by go_simp))) (fun ad cap => (by go_frame; rfl)) (fun ad => (by simp only [List.nil_append, List.cons_append]; rfl)) (fun ad40 cap40 => ?_)
  refine walkT_is (wantedN rfl) (fun w' hC hd => ?_) (by go_frame; rfl) (by simp only [List.nil_append, List.cons_append]; rfl) ?_
  · have hr : Row w' .i64 ad40 [u3, 2] := hd 40 (by kernel_rfl)
    exact tame_1 74 (.slice ad40 2 cap40) rfl (fun ρ hρ hf e1 => upon_call (f := 175) (by go_simp) (eqIv (add_any ad40 cap40 [u3, 2] w' hr (by simp)) E16.out))
  refine walkT_is (wantedN rfl) (fun w' hC hd => tame_8 43 (.int .i64 words) 44 (.int .i64 (W - 8)) 45 (.int .i64 (W - 7)) 51 (.int .i64 fields) 52 (.int .i64 ep) 53 (.int .i64 d) 64 (.int .i64 lag) 75 (.int .i64 settle) rfl rfl rfl rfl rfl rfl rfl rfl (fun ρ hρ hf e0 e1 e2 e3 e4 e5 e6 e7 => upon_is (by go_simp))) (by go_frame; rfl) (by simp only [List.nil_append, List.cons_append]; rfl) ?_
  refine walkT_nil fun w5 hC5 _ => hK _ _ ?_
  have hb5 := HB4.out.trans (hC5.mono HB4.out.size)
  clear c0 c1 c2 c3 HB4 hC5 hwr
  show wpList _ _ _ [_, _] _ _
  obtain ⟨hc, hf⟩ := bcell hb5
  have hz5 : w.heap.size + 1 < w5.heap.size := by have := hb5.size; simp at this; omega
  have HB5 := Lib.hid hb5
  clear hb5
  go_wp2_with fail
  exact bodyPost_ret (v := .tuple #[.agg #[.int .i64 words, .int .i64 (W - 8), .int .i64 (W - 7), .int .i64 fields, .int .i64 ep, .int .i64 d, .int .i64 lag, .int .i64 settle], .int .i64 0]) (by simp [results, Tryz.results134, go_sem, hc, hz5]) rfl ⟨rfl, by
    repeat refine Below.setCell ?_ (by simp) _
    exact ((below_new w _).alloc (by simp) _).trans (HB5.out.mono (by simp; omega))⟩


end Go.Proofs.YtljdbaddockfcaaGreat.Pk

namespace Go.Proofs.YtljdbaddockfcaaGreat.Pk
open Go.RowKit
set_option linter.unusedVariables false
set_option linter.unusedSimpArgs false

/-- What plan.Of returns of a configuration that may be. -/
def numsV (N W R K : Int) : Value := .agg #[.int .i64 (wordsI N W R), .int .i64 (W - 8), .int .i64 (W - 7), .int .i64 (fieldsI W), .int .i64 (epochI N W), .int .i64 (drainI N W), .int .i64 (lagI N W K), .int .i64 (settleI N W K)]

theorem of_yes (N W R K : Int) (w : World) (h : May N W R K) :
    Calls Tryz.prog 134 #[.agg #[.int .i64 N, .int .i64 W, .int .i64 R, .int .i64 K]] w fun e w' => e = .returned (.tuple #[numsV N W R K, .int .i64 0]) ∧ Below w.heap.size w w' := by
  have n0 := h.n0; have n1 := h.n1; have w0 := h.w0; have w1 := h.w1; have r0 := h.r0; have r1 := h.r1; have k0 := h.k0; have k1 := h.k1
  have hnw := nw_bd h
  have hd := drain_bd h
  have he := epoch_bd h
  have hf := fields_bd w0 w1
  have hu := upP_bd (a := epochI N W) (b := K) (by omega) k0
  have hv := upP_bd (a := 2 * epochI N W + drainI N W) (b := K) (by omega) k0
  have m2 : ∀ x : Int, 0 ≤ x → x ≤ 100000000 → mulL [2, x] = 2 * x := fun x h0 h1 => mul2_id (by omega) h0 (by omega) (by omega) (by omega)
  exact of_walk N W R K (W + 1) (drainI N W) (3 * drainI N W) (epochI N W) (N * W) (wordsI N W R) (fieldsI W) (upP (epochI N W) K) (2 * upP (epochI N W) K) (2 * (W - 7)) (lagI N W K) (2 * epochI N W) (2 * epochI N W + drainI N W) (upP (2 * epochI N W + drainI N W) K) (settleI N W K) w (Lib.hid h) w0 w1
    (Lib.hid (by rw [add2_id (by omega) (by omega) (by omega)]; omega)) (Lib.hid (add2_id (by omega) (by omega) (by omega))) (Lib.hid (mul2_id (by omega) (by omega) (by omega) (by omega) (by have : N * (W + 1) = drainI N W := rfl; omega)))
    (Lib.hid (mul2_id (by omega) (by omega) (by omega) (by omega) (by omega))) (Lib.hid (add2_id (by omega) (by omega) (by omega))) (Lib.hid (mul2_id (by omega) (by omega) (by omega) (by omega) (by omega)))
    (Lib.hid (add3_id (by omega) (by omega) (by omega) (by omega))) (Lib.hid (mul2_id (by omega) (by omega) (by omega) (by omega) (by have : (W - 8) * (W - 1) = fieldsI W := rfl; omega)))
    (Lib.hid (up_id (by omega) (by omega) k0 (by omega))) (Lib.hid (m2 _ (by omega) (by omega))) (Lib.hid (m2 _ (by omega) (by omega))) (Lib.hid (add2_id (by omega) (by omega) (by omega))) (Lib.hid (m2 _ (by omega) (by omega))) (Lib.hid (add2_id (by omega) (by omega) (by omega)))
    (Lib.hid (up_id (by omega) (by omega) k0 (by omega))) (Lib.hid (add2_id (by omega) (by omega) (by omega)))

theorem ofV {N W R K : Int} {v : Value} (w : World) (h : May N W R K) (hv : numsV N W R K = v) :
    Calls Tryz.prog 134 #[.agg #[.int .i64 N, .int .i64 W, .int .i64 R, .int .i64 K]] w fun e w' => e = .returned (.tuple #[v, .int .i64 0]) ∧ Below w.heap.size w w' := hv ▸ of_yes N W R K w h

end Go.Proofs.YtljdbaddockfcaaGreat.Pk
