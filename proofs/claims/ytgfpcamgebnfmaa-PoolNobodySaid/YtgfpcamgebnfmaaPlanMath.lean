/-
  Plain facts on configurations and their numbers: no program in sight.
-/
import Derived.Test.YtgfpcamgebnfmaaRatMath
namespace Go.Proofs.Ytgfpcamgebnfmaa.Pk
open Go.RowKit
set_option linter.unusedVariables false
set_option linter.unusedSimpArgs false

/-- May a configuration be? -/
def mayB (N W R K : Int) : Bool := decide (1 ≤ N ∧ N ≤ 1048576 ∧ 16 ≤ W ∧ W ≤ 256 ∧ 1 ≤ R ∧ R ≤ 4096 ∧ 1 ≤ K ∧ K ≤ 65536 ∧ N * W ≤ 4194304)
structure May (N W R K : Int) : Prop where
  n0 : 1 ≤ N
  n1 : N ≤ 1048576
  w0 : 16 ≤ W
  w1 : W ≤ 256
  r0 : 1 ≤ R
  r1 : R ≤ 4096
  k0 : 1 ≤ K
  k1 : K ≤ 65536
  nw : N * W ≤ 4194304
theorem may_of {N W R K : Int} (h : mayB N W R K = true) : May N W R K := by
  have h := of_decide_eq_true h
  exact ⟨h.1, h.2.1, h.2.2.1, h.2.2.2.1, h.2.2.2.2.1, h.2.2.2.2.2.1, h.2.2.2.2.2.2.1, h.2.2.2.2.2.2.2.1, h.2.2.2.2.2.2.2.2⟩
theorem mayB_mk {N W R K : Int} (h : May N W R K) : mayB N W R K = true := decide_eq_true ⟨h.n0, h.n1, h.w0, h.w1, h.r0, h.r1, h.k0, h.k1, h.nw⟩
theorem mayB_no {N W R K : Int} (h : ¬ May N W R K) : mayB N W R K = false := by
  cases e : mayB N W R K with
  | false => rfl
  | true => exact absurd (may_of e) h
theorem not_may {N W R K : Int} (h : mayB N W R K = false) : ¬ May N W R K := fun h' => by rw [mayB_mk h'] at h; cases h

theorem clamp_in {n lo hi : Int} (h0 : lo ≤ n) (h1 : n ≤ hi) : clampI n lo hi = n := by
  unfold clampI; rw [if_neg (by omega), if_neg (by omega)]
theorem clamp_bd {n lo hi : Int} (h : lo ≤ hi) : lo ≤ clampI n lo hi ∧ clampI n lo hi ≤ hi := by
  unfold clampI; split
  · omega
  · split <;> omega
theorem clamp_out {n lo hi : Int} (h : lo ≤ hi) (h1 : n < lo ∨ hi < n) : clampI n lo hi ≠ n := by
  have := clamp_bd (n := n) h
  omega

theorem add2_id {a b : Int} (ha : 0 ≤ a) (hb : 0 ≤ b) (h : a + b ≤ 1125899906842624) : addL [a, b] = a + b := by
  rw [addL_two, cnt_id ha (by omega), cnt_id hb (by omega), cnt_id (by omega) h]
theorem add3_id {a b c : Int} (ha : 0 ≤ a) (hb : 0 ≤ b) (hc : 0 ≤ c) (h : a + b + c ≤ 1125899906842624) : addL [a, b, c] = a + b + c := by
  have := addL_snoc [a, b] c
  rw [show [a, b] ++ [c] = [a, b, c] from rfl, add2_id ha hb (by omega), cnt_id hc (by omega), cnt_id (by omega) h] at this
  exact this
theorem mul2_id {a b : Int} (ha : 0 ≤ a) (hb : 0 ≤ b) (h1 : a ≤ 1125899906842624) (h2 : b ≤ 1125899906842624) (h : a * b ≤ 1125899906842624) : mulL [a, b] = a * b := by
  rw [mulL_two, cnt_id ha h1, cnt_id hb h2, times_min ha hb h1 h2]
  omega
theorem up_id {a b : Int} (ha : 0 ≤ a) (h1 : a ≤ 1125899906842624) (hb : 1 ≤ b) (h2 : b ≤ 1125899906842624) : upI a b = (a + b - 1) / b := by
  have e : byI b = b := by unfold byI; rw [cnt_id (by omega) h2, if_neg (by omega)]
  unfold upI
  rw [e, cnt_id ha h1]

/-! ### The numbers -/
def wordsI (N W R : Int) : Int := 24 + R + N * W
def drainI (N W : Int) : Int := N * (W + 1)
def epochI (N W : Int) : Int := 3 * (N * (W + 1)) + 4
def fieldsI (W : Int) : Int := (W - 8) * (W - 1)
def upP (a b : Int) : Int := (a + b - 1) / b
def lagI (N W K : Int) : Int := 2 * upP (epochI N W) K + 2 * (W - 7)
def settleI (N W K : Int) : Int := upP (2 * epochI N W + drainI N W) K + 2

theorem mul_le_of {a b A B : Int} (ha : 0 ≤ a) (hb : 0 ≤ b) (h1 : a ≤ A) (h2 : b ≤ B) : 0 ≤ a * b ∧ a * b ≤ A * B :=
  ⟨Int.mul_nonneg ha hb, Int.mul_le_mul h1 h2 hb (by omega)⟩
theorem nw_bd {N W R K : Int} (h : May N W R K) : 16 ≤ N * W ∧ N * W ≤ 4194304 := by
  have := Int.mul_le_mul h.n0 h.w0 (by omega) (by have := h.n0; omega)
  exact ⟨by omega, h.nw⟩
theorem drain_eq (N W : Int) : drainI N W = N * W + N := by unfold drainI; rw [Int.mul_add]; omega
theorem drain_bd {N W R K : Int} (h : May N W R K) : 17 ≤ drainI N W ∧ drainI N W ≤ 5242880 := by
  have := nw_bd h
  have := h.n0; have := h.n1
  rw [drain_eq]; omega
theorem epoch_eq (N W : Int) : epochI N W = 3 * drainI N W + 4 := rfl
theorem epoch_bd {N W R K : Int} (h : May N W R K) : 55 ≤ epochI N W ∧ epochI N W ≤ 15728644 := by
  have := drain_bd h
  rw [epoch_eq]; omega
theorem fields_bd {W : Int} (h0 : 16 ≤ W) (h1 : W ≤ 256) : 120 ≤ fieldsI W ∧ fieldsI W ≤ 63240 := by
  have a := Int.mul_le_mul (show (8 : Int) ≤ W - 8 by omega) (show (15 : Int) ≤ W - 1 by omega) (by omega) (by omega)
  have b := Int.mul_le_mul (show W - 8 ≤ 248 by omega) (show W - 1 ≤ 255 by omega) (by omega) (by omega)
  unfold fieldsI; omega
theorem upP_bd {a b : Int} (ha : 0 ≤ a) (hb : 1 ≤ b) : 0 ≤ upP a b ∧ upP a b ≤ a ∧ a ≤ b * upP a b ∧ b * upP a b < a + b := by
  unfold upP
  have h1 := Int.emod_add_mul_ediv (a + b - 1) b
  have h2 := Int.emod_nonneg (a + b - 1) (show b ≠ 0 by omega)
  have h3 := Int.emod_lt_of_pos (a + b - 1) (show 0 < b by omega)
  have h4 : 0 ≤ (a + b - 1) / b := Int.ediv_nonneg (by omega) (by omega)
  refine ⟨h4, ?_, by omega, by omega⟩
  by_cases h5 : a = 0
  · subst h5
    have : (0 + b - 1) / b = 0 := Int.ediv_eq_zero_of_lt (by omega) (by omega)
    omega
  · have h6 : (a + b - 1) / b < a + 1 := by
      apply Int.ediv_lt_of_lt_mul (by omega)
      have h7 : a * 1 ≤ a * b := Int.mul_le_mul_of_nonneg_left hb ha
      have : (a + 1) * b = a * b + b := by rw [Int.add_mul]; omega
      omega
    omega
theorem lag_bd {N W R K : Int} (h : May N W R K) : 0 ≤ lagI N W K ∧ lagI N W K ≤ 40000000 := by
  have e := epoch_bd h
  have u := upP_bd (a := epochI N W) (b := K) (by omega) h.k0
  have := h.w0; have := h.w1
  unfold lagI; omega
theorem settle_bd {N W R K : Int} (h : May N W R K) : 0 ≤ settleI N W K ∧ settleI N W K ≤ 40000000 := by
  have e := epoch_bd h
  have d := drain_bd h
  have u := upP_bd (a := 2 * epochI N W + drainI N W) (b := K) (by omega) h.k0
  unfold settleI; omega

/-- How many accesses an operation makes at most. -/
def eachI (W K : Int) : Int := 256 + 100 * (W + K)
def pauseI (N W R K kind blocks : Int) : Int :=
  if mayB N W R K = true then
    (if kind = 1 then 512 + clampI blocks 0 (W - 7) * eachI W K else if kind = 10 then 256 + 200 * K else if 2 ≤ kind ∧ kind ≤ 9 then 512 else 0)
  else 0

/-! ### With more units for each block -/
theorem upP_mono {a b c : Int} (ha : 0 ≤ a) (hb : 1 ≤ b) (h : b ≤ c) : upP a c ≤ upP a b := by
  have h1 := upP_bd ha hb
  have h2 := upP_bd (b := c) ha (by omega)
  by_cases e : upP a c ≤ upP a b
  · exact e
  · exfalso
    have h3 : c * (upP a b + 1) ≤ c * upP a c := Int.mul_le_mul_of_nonneg_left (by omega) (by omega)
    have h4 : b * upP a b ≤ c * upP a b := Int.mul_le_mul_of_nonneg_right h (by omega)
    rw [Int.mul_add] at h3
    omega
theorem lag_mono {N W R K K' : Int} (h : May N W R K) (hK : K ≤ K') : lagI N W K' ≤ lagI N W K := by
  have := upP_mono (a := epochI N W) (by have := epoch_bd h; omega) h.k0 hK
  unfold lagI; omega
theorem settle_mono {N W R K K' : Int} (h : May N W R K) (hK : K ≤ K') : settleI N W K' ≤ settleI N W K := by
  have := upP_mono (a := 2 * epochI N W + drainI N W) (by have := epoch_bd h; have := drain_bd h; omega) h.k0 hK
  unfold settleI; omega
theorem pause_mono {N W R K K' kind blocks : Int} (h : May N W R K) (h' : May N W R K') (hK : K ≤ K') : pauseI N W R K kind blocks ≤ pauseI N W R K' kind blocks := by
  unfold pauseI
  rw [if_pos (mayB_mk h), if_pos (mayB_mk h')]
  have hc := clamp_bd (n := blocks) (show 0 ≤ W - 7 by have := h.w0; omega)
  split
  · have : clampI blocks 0 (W - 7) * eachI W K ≤ clampI blocks 0 (W - 7) * eachI W K' := Int.mul_le_mul_of_nonneg_left (by unfold eachI; omega) hc.1
    omega
  · split
    · omega
    · exact Int.le_refl _
theorem pause_bd {N W R K kind blocks : Int} (h : May N W R K) : 0 ≤ pauseI N W R K kind blocks ∧ pauseI N W R K kind blocks ≤ 2000000000 := by
  unfold pauseI
  rw [if_pos (mayB_mk h)]
  have hc := clamp_bd (n := blocks) (show 0 ≤ W - 7 by have := h.w0; omega)
  have hw := h.w0; have hw1 := h.w1; have hk := h.k0; have hk1 := h.k1
  have he : 0 ≤ eachI W K ∧ eachI W K ≤ 6579456 := by unfold eachI; omega
  have hm := mul_le_of hc.1 he.1 (show clampI blocks 0 (W - 7) ≤ 249 by omega) he.2
  split
  · omega
  · split
    · omega
    · split <;> omega

/-! ### Half -/
theorem lag_half {N W R K : Int} (h : May N W R K) (hK : 24 * (W + 1) ≤ K) (hN : 40 * W ≤ N) : lagI N W K < (N + 1) / 2 := by
  have hw := h.w0; have hn := h.n0
  have e := epoch_bd h
  have u := upP_bd (a := epochI N W) (b := K) (by omega) h.k0
  -- 24 (W + 1) up <= K up < 3 N (W + 1) + 4 + K ; so it is enough to compare
  have h1 : upP (epochI N W) K ≤ upP (epochI N W) (24 * (W + 1)) := upP_mono (by omega) (by omega) hK
  have u2 := upP_bd (a := epochI N W) (b := 24 * (W + 1)) (by omega) (by omega)
  generalize hv : upP (epochI N W) (24 * (W + 1)) = v at *
  -- 8 v <= N + 8 or so
  have h2 : 8 * v < N + 10 := by
    by_cases hc : 8 * v < N + 10
    · exact hc
    · exfalso
      have h3 : (W + 1) * (N + 10) ≤ (W + 1) * (8 * v) := Int.mul_le_mul_of_nonneg_left (by omega) (by omega)
      have e1 : 24 * (W + 1) * v = 3 * ((W + 1) * (8 * v)) := by
        rw [show 24 * (W + 1) * v = 24 * ((W + 1) * v) from Int.mul_assoc _ _ _, show (W + 1) * (8 * v) = 8 * ((W + 1) * v) from Int.mul_left_comm _ _ _]; omega
      have e2 : (W + 1) * (N + 10) = N * (W + 1) + 10 * (W + 1) := by rw [Int.mul_add, Int.mul_comm (W + 1) N, Int.mul_comm (W + 1) 10]
      have e3 : epochI N W = 3 * (N * (W + 1)) + 4 := rfl
      have u3 := u2.2.2.2
      rw [e1, e3] at u3
      omega
  unfold lagI
  omega

end Go.Proofs.Ytgfpcamgebnfmaa.Pk
