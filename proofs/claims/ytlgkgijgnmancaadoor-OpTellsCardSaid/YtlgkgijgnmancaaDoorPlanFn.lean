/-
  Ratio: What the functions of package ratio return, and the document's.
  Plan: What the functions of package plan return.
  PlanOf: What plan.Of returns.
  PlanNums: plan.Of with its numbers; plan.Pause; the document's May and Pause; the chapter's example.
-/
import Derived.Test.YtlgkgijgnmancaaDoorProg
import Derived.Test.YtlgkgijgnmancaaDoorBaseEtc
import Derived.IntWalk
import Derived.Test.YtlgkgijgnmancaaDoorTame
import Derived.Outline
import Derived.Lib.SmallJoins

namespace Go.Proofs.YtlgkgijgnmancaaDoor.Pk
open Go.RowKit
set_option linter.unusedVariables false
set_option linter.unusedSimpArgs false

set_option maxHeartbeats 400000 in
theorem clamp_any (n lo hi : Int) (w : World) :
    Calls Tryd.prog 87 #[.int .i64 n, .int .i64 lo, .int .i64 hi] w fun e w' => e = .returned (.int .i64 (clampI n lo hi)) ∧ w = w' := by
  by_cases h1 : hi < n
  · go_enter Tryd.func87, Tryd.ntmps87
    go_wp2
    go_ret
    exact ⟨ret_int (by unfold clampI; rw [if_pos h1]), rfl⟩
  · by_cases h2 : n < lo
    · go_enter Tryd.func87, Tryd.ntmps87
      go_wp2
      go_ret
      exact ⟨ret_int (by unfold clampI; rw [if_neg (by omega), if_pos (by omega)]), rfl⟩
    · go_enter Tryd.func87, Tryd.ntmps87
      go_wp2
      go_ret
      exact ⟨ret_int (by unfold clampI; rw [if_neg (by omega), if_neg (by omega)]), rfl⟩

set_option maxHeartbeats 400000 in
theorem bounded_any (n : Int) (w : World) :
    Calls Tryd.prog 89 #[.int .i64 n] w fun e w' => e = .returned (.int .i64 (cnt n)) ∧ w = w' := by
  go_enter Tryd.func89, Tryd.ntmps89
  go_wp2_with fail
  refine (clamp_any _ _ _ _).mono ?_
  rintro e w1 ⟨rfl, rfl⟩
  go_wp2_with fail
  go_ret
  exact ⟨rfl, rfl⟩

set_option maxHeartbeats 400000 in
theorem divisor_any (n : Int) (w : World) :
    Calls Tryd.prog 105 #[.int .i64 n] w fun e w' => e = .returned (.int .i64 (byI n)) ∧ w = w' := by
  have hb := cnt_bd n
  by_cases h : cnt n < 1
  all_goals
    go_enter Tryd.func105, Tryd.ntmps105
    go_wp2_with fail
    refine (bounded_any _ _).mono ?_
    rintro e w1 ⟨rfl, rfl⟩
    go_wp2_with fail
    go_ret
    exact ⟨ret_int (by rw [byI_max]; omega), rfl⟩

set_option maxHeartbeats 400000 in
theorem times_any (a b : Int) (w : World) (ha : 0 ≤ a) (ha2 : a ≤ 1125899906842624) (hb : 0 ≤ b) (hb2 : b ≤ 1125899906842624) :
    Calls Tryd.prog 88 #[.int .i64 a, .int .i64 b] w fun e w' => e = .returned (.int .i64 (timesI a b)) ∧ w = w' := by
  by_cases h0 : 0 < b
  · by_cases h1 : 1125899906842624 / b < a
    · go_enter Tryd.func88, Tryd.ntmps88
      go_wp2
      go_ret
      exact ⟨ret_int (by unfold timesI; rw [if_pos ⟨h0, h1⟩]), rfl⟩
    · have e : timesI a b = a * b := by unfold timesI; rw [if_neg (fun h => h1 h.2)]
      have h2 := times_bd ha hb ha2 hb2
      rw [e] at h2
      have E := Lib.hid e
      clear e
      go_enter Tryd.func88, Tryd.ntmps88
      go_wp2
      go_ret
      exact ⟨ret_int (by rw [E.out]), rfl⟩
  · have h1 : b = 0 := by omega
    subst h1
    go_enter Tryd.func88, Tryd.ntmps88
    go_wp2
    go_ret
    exact ⟨ret_int (by unfold timesI; rw [if_neg (by omega)]; simp), rfl⟩

set_option maxHeartbeats 400000 in
theorem add_any (a : Option Addr) (cap : Nat) (zs : List Int) (w : World) (hrow : Row w .i64 a zs) (hlen : (zs.length : Int) ≤ 9223372036854775807) :
    Calls Tryd.prog 81 #[.slice a zs.length cap] w fun e w' => e = .returned (.int .i64 (addL zs)) ∧ w = w' := by
  go_enter Tryd.func81, Tryd.ntmps81
  go_wp2
  go_loop [3, 8] (fun t i => ∃ k : Nat, k ≤ zs.length ∧ i = .int .i64 k ∧ t = .int .i64 (addTo zs k)) (fun _ i => zs.length - (intOf i).toNat)
  case atStart => exact ⟨0, Nat.zero_le _, rfl, rfl⟩
  case round =>
    obtain ⟨k, hk, rfl, rfl⟩ := hrel
    have h1 := addTo_bd zs k
    have h2 := cnt_bd (nth zs k)
    by_cases hlt : k < zs.length
    · obtain ⟨b, off, rfl, hb, hc⟩ := hrow k hlt
      have HS := Lib.hid (addTo_succ hlt)
      go_wp2_with fail
      refine (bounded_any _ _).mono ?_
      rintro e w1 ⟨rfl, rfl⟩
      go_wp2_with fail
      refine (bounded_any _ _).mono ?_
      rintro e w1 ⟨rfl, rfl⟩
      go_wp2_with fail
      go_round
      case rel => exact ⟨k + 1, by omega, by go_num, by rw [HS.out]⟩
      case measure => simp [intOf]; omega
    · have e : k = zs.length := by omega
      have HE : Hid (addTo zs k = addL zs) := by rw [e, addTo_all]; exact rfl
      clear e
      go_wp2
      go_ret
      exact ⟨ret_int HE.out, rfl⟩

set_option maxHeartbeats 400000 in
theorem mul_any (a : Option Addr) (cap : Nat) (zs : List Int) (w : World) (hrow : Row w .i64 a zs) (hlen : (zs.length : Int) ≤ 9223372036854775807) :
    Calls Tryd.prog 70 #[.slice a zs.length cap] w fun e w' => e = .returned (.int .i64 (mulL zs)) ∧ w = w' := by
  go_enter Tryd.func70, Tryd.ntmps70
  go_wp2
  go_loop [3, 8] (fun t i => ∃ k : Nat, k ≤ zs.length ∧ i = .int .i64 k ∧ t = .int .i64 (mulTo zs k)) (fun _ i => zs.length - (intOf i).toNat)
  case atStart => exact ⟨0, Nat.zero_le _, rfl, rfl⟩
  case round =>
    obtain ⟨k, hk, rfl, rfl⟩ := hrel
    have h1 := mulTo_bd zs k
    have h2 := cnt_bd (nth zs k)
    by_cases hlt : k < zs.length
    · obtain ⟨b, off, rfl, hb, hc⟩ := hrow k hlt
      have HS := Lib.hid (mulTo_succ hlt)
      go_wp2_with fail
      refine (bounded_any _ _).mono ?_
      rintro e w1 ⟨rfl, rfl⟩
      go_wp2_with fail
      refine (times_any _ _ _ h1.1 h1.2 h2.1 h2.2).mono ?_
      rintro e w1 ⟨rfl, rfl⟩
      go_wp2_with fail
      go_round
      case rel => exact ⟨k + 1, by omega, by go_num, by rw [HS.out]⟩
      case measure => simp [intOf]; omega
    · have e : k = zs.length := by omega
      have HE : Hid (mulTo zs k = mulL zs) := by rw [e, mulTo_all]; exact rfl
      clear e
      go_wp2
      go_ret
      exact ⟨ret_int HE.out, rfl⟩

set_option maxHeartbeats 400000 in
theorem up_any (a b : Int) (w : World) :
    Calls Tryd.prog 84 #[.int .i64 a, .int .i64 b] w fun e w' => e = .returned (.int .i64 (upI a b)) ∧ w = w' := by
  have h1 := cnt_bd a
  have h2 := byI_bd b
  go_enter Tryd.func84, Tryd.ntmps84
  go_wp2_with (first | (go_at_call 89; refine (bounded_any _ _).mono ?_; rintro e w' ⟨rfl, rfl⟩) | (go_at_call 105; refine (divisor_any _ _).mono ?_; rintro e w' ⟨rfl, rfl⟩))
  go_ret
  exact ⟨ret_int rfl, rfl⟩

theorem bne_of {a b : Int} (h : a ≠ b) : (a == b) = false := by rw [beq_eq_false_iff_ne]; exact h

/-! ### The document's -/
/-! The document's product: nought if one of them is. -/
end Go.Proofs.YtlgkgijgnmancaaDoor.Pk

namespace Go.Proofs.YtlgkgijgnmancaaDoor.Pk
open Go.RowKit
set_option linter.unusedVariables false
set_option linter.unusedSimpArgs false

theorem eqIv {P : Program} {f : FuncId} {args : Array Value} {w : World} {a b : Int} (h : Calls P f args w fun e w' => e = .returned (.int .i64 a) ∧ w = w') (hab : a = b) :
    Calls P f args w fun e w' => e = .returned (.int .i64 b) ∧ w = w' := hab ▸ h
theorem mul2_lit (x y : Int) (w : World) (m : Nat) (h : m = w.heap.size) :
    Calls Tryd.prog 70 #[.slice (some ⟨m, 0, none⟩) 2 2] (w.alloc (.cells #[.int .i64 x, .int .i64 y] 3)) fun e w' => e = .returned (.int .i64 (mulL [x, y])) ∧ w.alloc (.cells #[.int .i64 x, .int .i64 y] 3) = w' := by
  subst h
  exact mul_any (some ⟨w.heap.size, 0, none⟩) 2 [x, y] _ (Row.lit w .i64 [x, y] 3) (by simp)
end Go.Proofs.YtlgkgijgnmancaaDoor.Pk

namespace Go.Proofs.YtlgkgijgnmancaaDoor.Pk
open Go.RowKit
set_option linter.unusedVariables false
set_option linter.unusedSimpArgs false

end Go.Proofs.YtlgkgijgnmancaaDoor.Pk

namespace Go.Proofs.YtlgkgijgnmancaaDoor.Pk
open Go.RowKit
set_option linter.unusedVariables false
set_option linter.unusedSimpArgs false

end Go.Proofs.YtlgkgijgnmancaaDoor.Pk
