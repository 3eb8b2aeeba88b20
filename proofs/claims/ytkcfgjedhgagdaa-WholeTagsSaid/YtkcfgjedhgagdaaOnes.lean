/-
  What the functions on the number of ones in a word return: the program's, and the document's.
-/
import Derived.Test.YtkcfgjedhgagdaaPack
import Derived.Lib.BitFns
namespace Go.Proofs.Ytkcfgjedhgagdaa.Pk
open Go.RowKit
set_option linter.unusedVariables false
set_option linter.unusedSimpArgs false

/-- How many of the k lowest bits are 1. -/
def onesN : Nat → Nat → Nat
  | 0, _ => 0
  | k + 1, x => x % 2 + onesN k (x / 2)
def onesI (x : Int) : Int := (onesN 32 x.toNat : Nat)

theorem onesN_le (k : Nat) : ∀ x, onesN k x ≤ k := by
  induction k with
  | zero => intro x; exact Nat.le_refl _
  | succ k ih => intro x; have := ih (x / 2); simp only [onesN]; omega
theorem onesN_zero (k : Nat) : onesN k 0 = 0 := by
  induction k with
  | zero => rfl
  | succ k ih => simp only [onesN, Nat.zero_mod, Nat.zero_div, ih]
theorem onesN_add (j : Nat) : ∀ k x, onesN (j + k) x = onesN j (x % 2 ^ j) + onesN k (x / 2 ^ j) := by
  induction j with
  | zero => intro k x; simp [onesN]
  | succ j ih =>
    intro k x
    rw [show j + 1 + k = (j + k) + 1 by omega]
    simp only [onesN]
    rw [ih k (x / 2)]
    have e1 : x % 2 ^ (j + 1) % 2 = x % 2 := by
      rw [Nat.pow_succ]
      exact Nat.mod_mod_of_dvd _ (Nat.dvd_mul_left _ _)
    have e2 : x % 2 ^ (j + 1) / 2 = x / 2 % 2 ^ j := by
      rw [Nat.pow_succ, Nat.mul_comm, Nat.mod_mul_right_div_self]
    have e3 : x / 2 / 2 ^ j = x / 2 ^ (j + 1) := by
      rw [Nat.div_div_eq_div_mul, Nat.pow_succ, Nat.mul_comm]
    rw [e1, e2, e3]
    omega
theorem onesN_small (j k x : Nat) (h : x < 2 ^ j) : onesN (j + k) x = onesN j x := by
  rw [onesN_add, Nat.mod_eq_of_lt h, Nat.div_eq_of_lt h, onesN_zero]
  omega
theorem pop8_ones : ∀ n : Fin 256, Lib.pop8 (n.val : Int) = (onesN 8 n.val : Int) := by decide +kernel
theorem pop8_of (b : Nat) (h : b < 256) : Lib.pop8 (b : Int) = (onesN 8 b : Int) := pop8_ones ⟨b, h⟩

theorem ones_four (x : Nat) (h : x < 2 ^ 32) :
    onesN 32 x = onesN 8 (x / 16777216) + onesN 8 (x / 65536 % 256) + onesN 8 (x / 256 % 256) + onesN 8 (x % 256) := by
  have h1 := onesN_add 8 24 x
  have h2 := onesN_add 8 16 (x / 2 ^ 8)
  have h3 := onesN_add 8 8 (x / 2 ^ 8 / 2 ^ 8)
  simp only [Nat.reduceAdd, Nat.reducePow] at h1 h2 h3
  rw [Nat.div_div_eq_div_mul] at h2 h3
  rw [Nat.div_div_eq_div_mul] at h3
  simp only [Nat.reduceMul] at h2 h3
  omega

theorem pop8_bd (b : Int) (h0 : 0 ≤ b) (h1 : b ≤ 255) : 0 ≤ Lib.pop8 b ∧ Lib.pop8 b ≤ 8 := by
  obtain ⟨B, rfl⟩ := Int.eq_ofNat_of_zero_le h0
  rw [pop8_of B (by omega)]
  have := onesN_le 8 B
  omega
theorem ones_int (x : Int) (h0 : 0 ≤ x) (h1 : x ≤ 4294967295) :
    Lib.pop8 (x / 16777216) + Lib.pop8 (x / 65536 % 256) + Lib.pop8 (x / 256 % 256) + Lib.pop8 (x % 256) = onesI x := by
  obtain ⟨X, rfl⟩ := Int.eq_ofNat_of_zero_le h0
  have e := ones_four X (by omega)
  have e1 : ((X : Int) / 16777216) = ((X / 16777216 : Nat) : Int) := by omega
  have e2 : ((X : Int) / 65536 % 256) = ((X / 65536 % 256 : Nat) : Int) := by omega
  have e3 : ((X : Int) / 256 % 256) = ((X / 256 % 256 : Nat) : Int) := by omega
  have e4 : ((X : Int) % 256) = ((X % 256 : Nat) : Int) := by omega
  rw [e1, e2, e3, e4, pop8_of _ (by omega), pop8_of _ (by omega), pop8_of _ (by omega), pop8_of _ (by omega)]
  unfold onesI
  rw [Int.toNat_natCast, e]
  omega

theorem and_255 (y : Int) (h0 : 0 ≤ y) (h1 : y ≤ 4294967295) : bits .and .u32 y 255 = y % 256 := by
  rw [u32_and y 255 h0 (by omega) (by decide) (by decide)]
  obtain ⟨Y, rfl⟩ := Int.eq_ofNat_of_zero_le h0
  have e : (255 : Int).toNat = 2 ^ 8 - 1 := by decide
  rw [e, Int.toNat_natCast, Nat.and_two_pow_sub_one_eq_mod]
  simp

set_option maxRecDepth 100000 in
set_option maxHeartbeats 1000000 in
theorem count32_any (x : Int) (w : World) (h0 : 0 ≤ x) (h1 : x ≤ 4294967295) :
    Calls Try.prog 68 #[.int .u32 x] w fun e w' => e = .returned (.int .i64 (onesI x)) ∧ ∃ k, w' = w.drewN k := by
  have a1 := and_255 x h0 h1
  have a2 := and_255 (x / 65536) (by omega) (by omega)
  have a3 := and_255 (x / 256) (by omega) (by omega)
  have b1 : 0 ≤ x / 16777216 := by omega
  have b2 : x / 16777216 ≤ 255 := by omega
  obtain ⟨p1, p2⟩ := pop8_bd (x / 16777216) b1 b2
  obtain ⟨q1, q2⟩ := pop8_bd (x / 65536 % 256) (by omega) (by omega)
  obtain ⟨r1, r2⟩ := pop8_bd (x / 256 % 256) (by omega) (by omega)
  obtain ⟨s1, s2⟩ := pop8_bd (x % 256) (by omega) (by omega)
  have HS : Hid (Lib.pop8 (x / 16777216) + Lib.pop8 (x / 65536 % 256) + Lib.pop8 (x / 256 % 256) + Lib.pop8 (x % 256) = onesI x) := ones_int x h0 h1
  go_enter Try.func68, Try.ntmps68
  go_wp2
  go_region
  go_wp2
  go_ret
  exact ⟨ret_int HS.out, 1, rfl⟩

set_option maxHeartbeats 400000 in
theorem ones_any (x : Int) (w : World) (h0 : 0 ≤ x) (h1 : x ≤ 4294967295) :
    Calls Try.prog 50 #[.int .u32 x] w fun e w' => e = .returned (.int .i64 (onesI x)) ∧ ∃ k, w' = w.drewN k := by
  go_enter Try.func50, Try.ntmps50
  go_wp2_with (go_at_call 68; refine (count32_any _ _ h0 h1).mono ?_; rintro e w' ⟨rfl, k, rfl⟩)
  go_ret
  exact ⟨rfl, _, rfl⟩

theorem onesN_step (k : Nat) (x : Nat) : onesN (k + 1) x = onesN k x + x / 2 ^ k % 2 := by
  rw [onesN_add k 1 x]
  simp only [onesN]
  have := onesN_small k 0 (x % 2 ^ k) (Nat.mod_lt _ (Nat.two_pow_pos k))
  have h2 : ∀ k x, onesN k (x % 2 ^ k) = onesN k x := by
    intro k x
    have h := onesN_add k 0 x
    simp only [onesN, Nat.add_zero] at h
    exact h.symm
  rw [h2]
  omega

end Go.Proofs.Ytkcfgjedhgagdaa.Pk
