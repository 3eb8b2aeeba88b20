/-
  What the functions of package ratio return, and the document's.
-/
import Derived.Test.YtgfpcamgebnfmaaProg
import Derived.Test.YtgfpcamgebnfmaaRatMath
import Derived.IntWalk
namespace Go.Proofs.Ytgfpcamgebnfmaa.Pk
open Go.RowKit
set_option linter.unusedVariables false
set_option linter.unusedSimpArgs false

set_option maxHeartbeats 400000 in
theorem clamp_any (n lo hi : Int) (w : World) :
    Calls Try.prog 75 #[.int .i64 n, .int .i64 lo, .int .i64 hi] w fun e w' => e = .returned (.int .i64 (clampI n lo hi)) ∧ w = w' := by
  by_cases h1 : hi < n
  · go_enter Try.func75, Try.ntmps75
    go_wp2
    go_ret
    exact ⟨ret_int (by unfold clampI; rw [if_pos h1]), rfl⟩
  · by_cases h2 : n < lo
    · go_enter Try.func75, Try.ntmps75
      go_wp2
      go_ret
      exact ⟨ret_int (by unfold clampI; rw [if_neg (by omega), if_pos (by omega)]), rfl⟩
    · go_enter Try.func75, Try.ntmps75
      go_wp2
      go_ret
      exact ⟨ret_int (by unfold clampI; rw [if_neg (by omega), if_neg (by omega)]), rfl⟩

set_option maxHeartbeats 400000 in
theorem bounded_any (n : Int) (w : World) :
    Calls Try.prog 63 #[.int .i64 n] w fun e w' => e = .returned (.int .i64 (cnt n)) ∧ w = w' := by
  go_enter Try.func63, Try.ntmps63
  go_wp2_with fail
  refine (clamp_any _ _ _ _).mono ?_
  rintro e w1 ⟨rfl, rfl⟩
  go_wp2_with fail
  go_ret
  exact ⟨rfl, rfl⟩

set_option maxHeartbeats 400000 in
theorem divisor_any (n : Int) (w : World) :
    Calls Try.prog 65 #[.int .i64 n] w fun e w' => e = .returned (.int .i64 (byI n)) ∧ w = w' := by
  have hb := cnt_bd n
  by_cases h : cnt n < 1
  all_goals
    go_enter Try.func65, Try.ntmps65
    go_wp2_with fail
    refine (bounded_any _ _).mono ?_
    rintro e w1 ⟨rfl, rfl⟩
    go_wp2_with fail
    go_ret
    exact ⟨ret_int (by rw [byI_max]; omega), rfl⟩

set_option maxHeartbeats 400000 in
theorem times_any (a b : Int) (w : World) (ha : 0 ≤ a) (ha2 : a ≤ 1125899906842624) (hb : 0 ≤ b) (hb2 : b ≤ 1125899906842624) :
    Calls Try.prog 64 #[.int .i64 a, .int .i64 b] w fun e w' => e = .returned (.int .i64 (timesI a b)) ∧ w = w' := by
  by_cases h0 : 0 < b
  · by_cases h1 : 1125899906842624 / b < a
    · go_enter Try.func64, Try.ntmps64
      go_wp2
      go_ret
      exact ⟨ret_int (by unfold timesI; rw [if_pos ⟨h0, h1⟩]), rfl⟩
    · have e : timesI a b = a * b := by unfold timesI; rw [if_neg (fun h => h1 h.2)]
      have h2 := times_bd ha hb ha2 hb2
      rw [e] at h2
      have E := Lib.hid e
      clear e
      go_enter Try.func64, Try.ntmps64
      go_wp2
      go_ret
      exact ⟨ret_int (by rw [E.out]), rfl⟩
  · have h1 : b = 0 := by omega
    subst h1
    go_enter Try.func64, Try.ntmps64
    go_wp2
    go_ret
    exact ⟨ret_int (by unfold timesI; rw [if_neg (by omega)]; simp), rfl⟩

set_option maxHeartbeats 400000 in
theorem add_any (a : Option Addr) (cap : Nat) (zs : List Int) (w : World) (hrow : Row w .i64 a zs) (hlen : (zs.length : Int) ≤ 9223372036854775807) :
    Calls Try.prog 40 #[.slice a zs.length cap] w fun e w' => e = .returned (.int .i64 (addL zs)) ∧ w = w' := by
  go_enter Try.func40, Try.ntmps40
  go_wp2
  go_loop [3, 8] (fun t i => ∃ k : Nat, k ≤ zs.length ∧ i = .int .i64 k ∧ t = .int .i64 (addTo zs k)) (fun _ i => zs.length - (intOf i).toNat)
  case atStart => exact ⟨0, Nat.zero_le _, rfl, rfl⟩
  case round =>
    obtain ⟨k, hk, rfl, rfl⟩ := hrel
    have h1 := addTo_bd zs k
    have h2 := cnt_bd (nth zs k)
    by_cases hlt : k < zs.length
    · obtain ⟨b, off, rfl, hb, hc⟩ := hrow k hlt
      have HS := Lib.hid (addTo_succ hlt)
      go_wp2_with fail
      refine (bounded_any _ _).mono ?_
      rintro e w1 ⟨rfl, rfl⟩
      go_wp2_with fail
      refine (bounded_any _ _).mono ?_
      rintro e w1 ⟨rfl, rfl⟩
      go_wp2_with fail
      go_round
      case rel => exact ⟨k + 1, by omega, by go_num, by rw [HS.out]⟩
      case measure => simp [intOf]; omega
    · have e : k = zs.length := by omega
      have HE : Hid (addTo zs k = addL zs) := by rw [e, addTo_all]; exact rfl
      clear e
      go_wp2
      go_ret
      exact ⟨ret_int HE.out, rfl⟩

set_option maxHeartbeats 400000 in
theorem mul_any (a : Option Addr) (cap : Nat) (zs : List Int) (w : World) (hrow : Row w .i64 a zs) (hlen : (zs.length : Int) ≤ 9223372036854775807) :
    Calls Try.prog 41 #[.slice a zs.length cap] w fun e w' => e = .returned (.int .i64 (mulL zs)) ∧ w = w' := by
  go_enter Try.func41, Try.ntmps41
  go_wp2
  go_loop [3, 8] (fun t i => ∃ k : Nat, k ≤ zs.length ∧ i = .int .i64 k ∧ t = .int .i64 (mulTo zs k)) (fun _ i => zs.length - (intOf i).toNat)
  case atStart => exact ⟨0, Nat.zero_le _, rfl, rfl⟩
  case round =>
    obtain ⟨k, hk, rfl, rfl⟩ := hrel
    have h1 := mulTo_bd zs k
    have h2 := cnt_bd (nth zs k)
    by_cases hlt : k < zs.length
    · obtain ⟨b, off, rfl, hb, hc⟩ := hrow k hlt
      have HS := Lib.hid (mulTo_succ hlt)
      go_wp2_with fail
      refine (bounded_any _ _).mono ?_
      rintro e w1 ⟨rfl, rfl⟩
      go_wp2_with fail
      refine (times_any _ _ _ h1.1 h1.2 h2.1 h2.2).mono ?_
      rintro e w1 ⟨rfl, rfl⟩
      go_wp2_with fail
      go_round
      case rel => exact ⟨k + 1, by omega, by go_num, by rw [HS.out]⟩
      case measure => simp [intOf]; omega
    · have e : k = zs.length := by omega
      have HE : Hid (mulTo zs k = mulL zs) := by rw [e, mulTo_all]; exact rfl
      clear e
      go_wp2
      go_ret
      exact ⟨ret_int HE.out, rfl⟩

set_option maxHeartbeats 400000 in
theorem up_any (a b : Int) (w : World) :
    Calls Try.prog 42 #[.int .i64 a, .int .i64 b] w fun e w' => e = .returned (.int .i64 (upI a b)) ∧ w = w' := by
  have h1 := cnt_bd a
  have h2 := byI_bd b
  go_enter Try.func42, Try.ntmps42
  go_wp2_with (first | (go_at_call 63; refine (bounded_any _ _).mono ?_; rintro e w' ⟨rfl, rfl⟩) | (go_at_call 65; refine (divisor_any _ _).mono ?_; rintro e w' ⟨rfl, rfl⟩))
  go_ret
  exact ⟨ret_int rfl, rfl⟩

theorem bne_of {a b : Int} (h : a ≠ b) : (a == b) = false := by rw [beq_eq_false_iff_ne]; exact h

/-! ### The document's -/
/-! The document's product: nought if one of them is. -/
end Go.Proofs.Ytgfpcamgebnfmaa.Pk
