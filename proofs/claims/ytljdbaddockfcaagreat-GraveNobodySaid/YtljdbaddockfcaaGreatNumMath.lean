/-
  RatMath: Plain facts on numbers that stop at a bound: no program in sight.
  PlanMath: Plain facts on configurations and their numbers: no program in sight.
-/
import Derived.Test.YtljdbaddockfcaaGreatBase

namespace Go.Proofs.YtljdbaddockfcaaGreat.Pk
open Go.RowKit
set_option linter.unusedVariables false
set_option linter.unusedSimpArgs false

/-- A number between two others. -/
def clampI (n lo hi : Int) : Int := if hi < n then hi else if n < lo then lo else n
/-- What a number counts as. -/
def cnt (n : Int) : Int := clampI n 0 1125899906842624
/-- What one divides by. -/
def byI (n : Int) : Int := if cnt n = 0 then 1 else cnt n
/-- A product of two numbers that stops at the bound. -/
def timesI (a b : Int) : Int := if 0 < b ∧ 1125899906842624 / b < a then 1125899906842624 else a * b
def downI (a b : Int) : Int := cnt a / byI b
def upI (a b : Int) : Int := (cnt a + byI b - 1) / byI b
def leastI (t s : Int) : Int := if cnt t = 0 then 1 else if cnt s = 0 then 0 else upI t s

theorem cnt_bd (n : Int) : 0 ≤ cnt n ∧ cnt n ≤ 1125899906842624 := by
  unfold cnt clampI; split
  · omega
  · split <;> omega
theorem cnt_id {n : Int} (h0 : 0 ≤ n) (h1 : n ≤ 1125899906842624) : cnt n = n := by
  unfold cnt clampI; rw [if_neg (by omega), if_neg (by omega)]
theorem cnt_hi {n : Int} (h1 : 1125899906842624 ≤ n) : cnt n = 1125899906842624 := by
  unfold cnt clampI; split
  · rfl
  · rw [if_neg (by omega)]; omega
theorem cnt_lo {n : Int} (h1 : n ≤ 0) : cnt n = 0 := by
  unfold cnt clampI; rw [if_neg (by omega)]; split
  · rfl
  · omega
theorem cnt_min (n : Int) : cnt n = max 0 (min n 1125899906842624) := by
  unfold cnt clampI; split
  · omega
  · split <;> omega
theorem byI_bd (n : Int) : 1 ≤ byI n ∧ byI n ≤ 1125899906842624 := by
  have := cnt_bd n
  unfold byI; split <;> omega
theorem byI_max (n : Int) : byI n = max (cnt n) 1 := by
  have := cnt_bd n
  unfold byI; split <;> omega
theorem byI_clamp (n : Int) : byI n = clampI n 1 1125899906842624 := by
  unfold byI cnt clampI; split <;> split <;> (try split) <;> (try split) <;> (try split) <;> omega
theorem downI_bd (a b : Int) : 0 ≤ downI a b ∧ downI a b ≤ cnt a := by
  have h1 := cnt_bd a
  have h2 := byI_bd b
  unfold downI
  exact ⟨Int.ediv_nonneg h1.1 (by omega), Int.ediv_le_self _ h1.1⟩
/-- Down, and the rest. -/
theorem down_rest (a b : Int) : byI b * downI a b + cnt a % byI b = cnt a ∧ 0 ≤ cnt a % byI b ∧ cnt a % byI b < byI b := by
  have h2 := byI_bd b
  unfold downI
  exact ⟨by have := Int.emod_add_mul_ediv (cnt a) (byI b); omega, Int.emod_nonneg _ (by omega), Int.emod_lt_of_pos _ (by omega)⟩
theorem upI_eq (a b : Int) : upI a b = if 0 < cnt a % byI b then downI a b + 1 else downI a b := by
  obtain ⟨h1, h2, h3⟩ := down_rest a b
  have hb := byI_bd b
  unfold upI
  by_cases h : 0 < cnt a % byI b
  · rw [if_pos h]
    rw [show cnt a + byI b - 1 = (cnt a % byI b - 1) + (downI a b + 1) * byI b by rw [Int.add_mul, Int.mul_comm (downI a b)]; omega]
    rw [Int.add_mul_ediv_right _ _ (by omega), Int.ediv_eq_zero_of_lt (by omega) (by omega)]
    omega
  · rw [if_neg h]
    rw [show cnt a + byI b - 1 = (byI b - 1) + downI a b * byI b by rw [Int.mul_comm (downI a b)]; omega]
    rw [Int.add_mul_ediv_right _ _ (by omega), Int.ediv_eq_zero_of_lt (by omega) (by omega)]
    omega
theorem upI_bd (a b : Int) : downI a b ≤ upI a b ∧ upI a b ≤ downI a b + 1 := by
  rw [upI_eq]; split <;> omega
theorem upI_most (a b : Int) : 0 ≤ upI a b ∧ upI a b ≤ cnt a := by
  have h := downI_bd a b
  obtain ⟨h1, h2, h3⟩ := down_rest a b
  have hb := byI_bd b
  rw [upI_eq]
  split
  · refine ⟨by omega, ?_⟩
    have : 1 * downI a b ≤ byI b * downI a b := Int.mul_le_mul_of_nonneg_right hb.1 h.1
    omega
  · omega
/-- Up times what one divides by. -/
theorem upI_mul (a b : Int) : cnt a ≤ byI b * upI a b ∧ byI b * upI a b < cnt a + byI b := by
  obtain ⟨h1, h2, h3⟩ := down_rest a b
  rw [upI_eq]
  split
  · rw [Int.mul_add]; omega
  · omega

theorem times_min {a b : Int} (ha : 0 ≤ a) (hb : 0 ≤ b) (ha2 : a ≤ 1125899906842624) (hb2 : b ≤ 1125899906842624) : timesI a b = min 1125899906842624 (a * b) := by
  unfold timesI
  by_cases h : 0 < b ∧ 1125899906842624 / b < a
  · rw [if_pos h]
    have h1 := Int.emod_add_mul_ediv 1125899906842624 b
    have h2 := Int.emod_lt_of_pos 1125899906842624 h.1
    have h3 : b * (1125899906842624 / b + 1) ≤ b * a := Int.mul_le_mul_of_nonneg_left (by omega) hb
    rw [Int.mul_add, Int.mul_comm b a] at h3
    omega
  · rw [if_neg h]
    by_cases hb0 : b = 0
    · subst hb0; rw [Int.mul_zero]; decide
    · have hp : 0 < b := by omega
      have h4 : a ≤ 1125899906842624 / b := by
        by_cases h5 : 1125899906842624 / b < a
        · exact absurd ⟨hp, h5⟩ h
        · omega
      have h5 : b * a ≤ b * (1125899906842624 / b) := Int.mul_le_mul_of_nonneg_left h4 hb
      have h6 := Int.mul_ediv_self_le (x := 1125899906842624) (k := b) (by omega)
      rw [Int.mul_comm b a] at h5
      omega
theorem times_bd {a b : Int} (ha : 0 ≤ a) (hb : 0 ≤ b) (ha2 : a ≤ 1125899906842624) (hb2 : b ≤ 1125899906842624) : 0 ≤ timesI a b ∧ timesI a b ≤ 1125899906842624 := by
  rw [times_min ha hb ha2 hb2]
  have := Int.mul_nonneg ha hb
  omega

/-! ### Sums and products of lists -/
def addL (l : List Int) : Int := l.foldl (fun s n => cnt (s + cnt n)) 0
def mulL (l : List Int) : Int := l.foldl (fun s n => timesI s (cnt n)) 1
/-- The k first numbers' sum, and product. -/
def addTo (l : List Int) (k : Nat) : Int := addL (l.take k)
def mulTo (l : List Int) (k : Nat) : Int := mulL (l.take k)
theorem take_nth {l : List Int} {k : Nat} (h : k < l.length) : l.take (k + 1) = l.take k ++ [nth l k] := by
  rw [List.take_succ_eq_append_getElem h]; unfold nth; simp [List.getD, h]
theorem addTo_zero (l : List Int) : addTo l 0 = 0 := rfl
theorem addTo_succ {l : List Int} {k : Nat} (h : k < l.length) : addTo l (k + 1) = cnt (addTo l k + cnt (nth l k)) := by
  unfold addTo addL; rw [take_nth h, List.foldl_append]; rfl
theorem addTo_all (l : List Int) : addTo l l.length = addL l := by unfold addTo; rw [List.take_length]
theorem mulTo_zero (l : List Int) : mulTo l 0 = 1 := rfl
theorem mulTo_succ {l : List Int} {k : Nat} (h : k < l.length) : mulTo l (k + 1) = timesI (mulTo l k) (cnt (nth l k)) := by
  unfold mulTo mulL; rw [take_nth h, List.foldl_append]; rfl
theorem mulTo_all (l : List Int) : mulTo l l.length = mulL l := by unfold mulTo; rw [List.take_length]

/-- The sum, the product, with no bound. -/
def sumC : List Int → Int
  | [] => 0
  | n :: l => cnt n + sumC l
def prodC : List Int → Int
  | [] => 1
  | n :: l => cnt n * prodC l
theorem sumC_nn (l : List Int) : 0 ≤ sumC l := by
  induction l with
  | nil => exact Int.le_refl _
  | cons n l ih => have := cnt_bd n; show 0 ≤ cnt n + sumC l; omega
theorem prodC_nn (l : List Int) : 0 ≤ prodC l := by
  induction l with
  | nil => decide
  | cons n l ih => exact Int.mul_nonneg (cnt_bd n).1 ih
theorem sumC_append (l m : List Int) : sumC (l ++ m) = sumC l + sumC m := by
  induction l with
  | nil => show sumC m = 0 + sumC m; omega
  | cons n l ih => show cnt n + sumC (l ++ m) = cnt n + sumC l + sumC m; rw [ih]; omega
theorem prodC_append (l m : List Int) : prodC (l ++ m) = prodC l * prodC m := by
  induction l with
  | nil => show prodC m = 1 * prodC m; omega
  | cons n l ih => show cnt n * prodC (l ++ m) = cnt n * prodC l * prodC m; rw [ih, Int.mul_assoc]
theorem sumC_one (n : Int) : sumC [n] = cnt n := by show cnt n + 0 = cnt n; omega
theorem prodC_one (n : Int) : prodC [n] = cnt n := by show cnt n * 1 = cnt n; omega
theorem sumC_reverse (l : List Int) : sumC l.reverse = sumC l := by
  induction l with
  | nil => rfl
  | cons n l ih => rw [List.reverse_cons, sumC_append, ih, sumC_one]; show sumC l + cnt n = cnt n + sumC l; omega
theorem prodC_reverse (l : List Int) : prodC l.reverse = prodC l := by
  induction l with
  | nil => rfl
  | cons n l ih => rw [List.reverse_cons, prodC_append, ih, prodC_one]; show prodC l * cnt n = cnt n * prodC l; exact Int.mul_comm _ _

theorem addL_sum (l : List Int) : addL l = min 1125899906842624 (sumC l) := by
  have h : ∀ k, k ≤ l.length → addTo l k = min 1125899906842624 (sumC (l.take k)) := by
    intro k
    induction k with
    | zero => intro _; rfl
    | succ k ih =>
      intro hk
      rw [addTo_succ hk, ih (by omega), take_nth hk, sumC_append, sumC_one, cnt_min]
      have h1 := sumC_nn (l.take k)
      have h2 := cnt_bd (nth l k)
      omega
  have := h l.length (Nat.le_refl _)
  rwa [addTo_all, List.take_length] at this
theorem addL_bd (l : List Int) : 0 ≤ addL l ∧ addL l ≤ 1125899906842624 := by
  rw [addL_sum]; have := sumC_nn l; omega
theorem addTo_bd (l : List Int) (k : Nat) : 0 ≤ addTo l k ∧ addTo l k ≤ 1125899906842624 := addL_bd _
theorem min_mul {p c : Int} (hp : 0 ≤ p) (hc : 0 ≤ c) : min 1125899906842624 (min 1125899906842624 p * c) = min 1125899906842624 (p * c) := by
  by_cases h : p ≤ 1125899906842624
  · rw [show min 1125899906842624 p = p by omega]
  · rw [show min 1125899906842624 p = 1125899906842624 by omega]
    by_cases h0 : c = 0
    · subst h0; rw [Int.mul_zero, Int.mul_zero]
    · have h1 : 1125899906842624 * 1 ≤ 1125899906842624 * c := Int.mul_le_mul_of_nonneg_left (by omega) (by decide)
      have h2 : 1125899906842624 * c ≤ p * c := Int.mul_le_mul_of_nonneg_right (by omega) hc
      omega
theorem mulTo_prod (l : List Int) : ∀ k, k ≤ l.length → mulTo l k = min 1125899906842624 (prodC (l.take k)) := by
  intro k
  induction k with
  | zero => intro _; rfl
  | succ k ih =>
    intro hk
    have h1 := prodC_nn (l.take k)
    have h2 := cnt_bd (nth l k)
    rw [mulTo_succ hk, ih (by omega), take_nth hk, prodC_append, prodC_one, times_min (by omega) h2.1 (by omega) h2.2, min_mul h1 h2.1]
theorem mulL_prod (l : List Int) : mulL l = min 1125899906842624 (prodC l) := by
  have := mulTo_prod l l.length (Nat.le_refl _)
  rwa [mulTo_all, List.take_length] at this
theorem mulL_bd (l : List Int) : 0 ≤ mulL l ∧ mulL l ≤ 1125899906842624 := by
  rw [mulL_prod]; have := prodC_nn l; omega
theorem mulTo_bd (l : List Int) (k : Nat) : 0 ≤ mulTo l k ∧ mulTo l k ≤ 1125899906842624 := mulL_bd _
theorem addL_reverse (l : List Int) : addL l.reverse = addL l := by rw [addL_sum, addL_sum, sumC_reverse]
theorem mulL_reverse (l : List Int) : mulL l.reverse = mulL l := by rw [mulL_prod, mulL_prod, prodC_reverse]
theorem addL_snoc (l : List Int) (n : Int) : addL (l ++ [n]) = cnt (addL l + cnt n) := by
  unfold addL; rw [List.foldl_append]; rfl
theorem addL_two (a b : Int) : addL [a, b] = cnt (cnt a + cnt b) := by
  show cnt (cnt (0 + cnt a) + cnt b) = _
  rw [Int.zero_add, cnt_id (cnt_bd a).1 (cnt_bd a).2]
theorem mulL_two (a b : Int) : mulL [a, b] = timesI (cnt a) (cnt b) := by
  show timesI (timesI 1 (cnt a)) (cnt b) = _
  rw [times_min (by decide) (cnt_bd a).1 (by decide) (cnt_bd a).2, Int.one_mul]
  have := cnt_bd a
  rw [show min 1125899906842624 (cnt a) = cnt a by omega]
/-- Is one of them nought? -/
def anyZero (l : List Int) (k : Nat) : Prop := ∃ j, j < k ∧ cnt (nth l j) = 0
theorem prodC_zero {l : List Int} {j : Nat} (hj : j < l.length) (h : cnt (nth l j) = 0) : prodC l = 0 := by
  induction l generalizing j with
  | nil => simp at hj
  | cons n l ih =>
    cases j with
    | zero => show cnt n * prodC l = 0; rw [show cnt n = 0 from h, Int.zero_mul]
    | succ j => show cnt n * prodC l = 0; rw [ih (j := j) (by simpa using hj) (by unfold nth at h ⊢; simpa using h), Int.mul_zero]
theorem mulL_zero {l : List Int} {j : Nat} (hj : j < l.length) (h : cnt (nth l j) = 0) : mulL l = 0 := by
  rw [mulL_prod, prodC_zero hj h]; decide

/-! ### Least -/
theorem leastI_cases (t s : Int) : (leastI t s = 0 ∧ cnt s = 0 ∧ 0 < cnt t) ∨
    (1 ≤ leastI t s ∧ leastI t s ≤ 1125899906842624 ∧ upI t (leastI t s) ≤ cnt s ∧ (leastI t s = 1 ∨ cnt s < upI t (leastI t s - 1))) := by
  have ht := cnt_bd t
  have hs := cnt_bd s
  have hu : ∀ k, 1 ≤ k → k ≤ 1125899906842624 → byI k = k := by
    intro k h1 h2; unfold byI; rw [cnt_id (by omega) h2, if_neg (by omega)]
  unfold leastI
  by_cases h0 : cnt t = 0
  · refine .inr ?_
    rw [if_pos h0]
    have := upI_most t 1
    refine ⟨by decide, by decide, by omega, .inl rfl⟩
  · rw [if_neg h0]
    by_cases h1 : cnt s = 0
    · rw [if_pos h1]; exact .inl ⟨rfl, h1, by omega⟩
    · rw [if_neg h1]
      refine .inr ?_
      have hb : byI s = cnt s := by unfold byI; rw [if_neg h1]
      have g1 := upI_mul t s
      have g2 := upI_most t s
      rw [hb] at g1
      generalize hk : upI t s = k at *
      have k1 : 1 ≤ k := by
        by_cases hk0 : k = 0
        · subst hk0; omega
        · omega
      refine ⟨k1, by omega, ?_, ?_⟩
      · have g3 := upI_mul t k
        rw [hu k k1 (by omega)] at g3
        -- k * up < t + k <= s * k + k
        have : k * upI t k < k * (cnt s + 1) := by rw [Int.mul_add, Int.mul_comm k (cnt s)]; omega
        have := Int.lt_of_mul_lt_mul_left this (by omega)
        omega
      · by_cases hk1 : k = 1
        · exact .inl hk1
        · refine .inr ?_
          have g3 := upI_mul t (k - 1)
          rw [hu (k - 1) (by omega) (by omega)] at g3
          -- s * k < t + s, so s * (k - 1) < t <= (k - 1) * up
          have : (k - 1) * cnt s < (k - 1) * upI t (k - 1) := by rw [Int.mul_comm, Int.mul_sub]; omega
          exact Int.lt_of_mul_lt_mul_left this (by omega)

end Go.Proofs.YtljdbaddockfcaaGreat.Pk

namespace Go.Proofs.YtljdbaddockfcaaGreat.Pk
open Go.RowKit
set_option linter.unusedVariables false
set_option linter.unusedSimpArgs false

/-- May a configuration be? -/
def mayB (N W R K : Int) : Bool := decide (1 ≤ N ∧ N ≤ 1048576 ∧ 16 ≤ W ∧ W ≤ 256 ∧ 1 ≤ R ∧ R ≤ 4096 ∧ 1 ≤ K ∧ K ≤ 65536 ∧ N * W ≤ 4194304)
structure May (N W R K : Int) : Prop where
  n0 : 1 ≤ N
  n1 : N ≤ 1048576
  w0 : 16 ≤ W
  w1 : W ≤ 256
  r0 : 1 ≤ R
  r1 : R ≤ 4096
  k0 : 1 ≤ K
  k1 : K ≤ 65536
  nw : N * W ≤ 4194304
theorem may_of {N W R K : Int} (h : mayB N W R K = true) : May N W R K := by
  have h := of_decide_eq_true h
  exact ⟨h.1, h.2.1, h.2.2.1, h.2.2.2.1, h.2.2.2.2.1, h.2.2.2.2.2.1, h.2.2.2.2.2.2.1, h.2.2.2.2.2.2.2.1, h.2.2.2.2.2.2.2.2⟩
theorem mayB_mk {N W R K : Int} (h : May N W R K) : mayB N W R K = true := decide_eq_true ⟨h.n0, h.n1, h.w0, h.w1, h.r0, h.r1, h.k0, h.k1, h.nw⟩
theorem mayB_no {N W R K : Int} (h : ¬ May N W R K) : mayB N W R K = false := by
  cases e : mayB N W R K with
  | false => rfl
  | true => exact absurd (may_of e) h
theorem not_may {N W R K : Int} (h : mayB N W R K = false) : ¬ May N W R K := fun h' => by rw [mayB_mk h'] at h; cases h

theorem clamp_in {n lo hi : Int} (h0 : lo ≤ n) (h1 : n ≤ hi) : clampI n lo hi = n := by
  unfold clampI; rw [if_neg (by omega), if_neg (by omega)]
theorem clamp_bd {n lo hi : Int} (h : lo ≤ hi) : lo ≤ clampI n lo hi ∧ clampI n lo hi ≤ hi := by
  unfold clampI; split
  · omega
  · split <;> omega
theorem clamp_out {n lo hi : Int} (h : lo ≤ hi) (h1 : n < lo ∨ hi < n) : clampI n lo hi ≠ n := by
  have := clamp_bd (n := n) h
  omega

theorem add2_id {a b : Int} (ha : 0 ≤ a) (hb : 0 ≤ b) (h : a + b ≤ 1125899906842624) : addL [a, b] = a + b := by
  rw [addL_two, cnt_id ha (by omega), cnt_id hb (by omega), cnt_id (by omega) h]
theorem add3_id {a b c : Int} (ha : 0 ≤ a) (hb : 0 ≤ b) (hc : 0 ≤ c) (h : a + b + c ≤ 1125899906842624) : addL [a, b, c] = a + b + c := by
  have := addL_snoc [a, b] c
  rw [show [a, b] ++ [c] = [a, b, c] from rfl, add2_id ha hb (by omega), cnt_id hc (by omega), cnt_id (by omega) h] at this
  exact this
theorem mul2_id {a b : Int} (ha : 0 ≤ a) (hb : 0 ≤ b) (h1 : a ≤ 1125899906842624) (h2 : b ≤ 1125899906842624) (h : a * b ≤ 1125899906842624) : mulL [a, b] = a * b := by
  rw [mulL_two, cnt_id ha h1, cnt_id hb h2, times_min ha hb h1 h2]
  omega
theorem up_id {a b : Int} (ha : 0 ≤ a) (h1 : a ≤ 1125899906842624) (hb : 1 ≤ b) (h2 : b ≤ 1125899906842624) : upI a b = (a + b - 1) / b := by
  have e : byI b = b := by unfold byI; rw [cnt_id (by omega) h2, if_neg (by omega)]
  unfold upI
  rw [e, cnt_id ha h1]

/-! ### The numbers -/
def wordsI (N W R : Int) : Int := 24 + R + N * W
def drainI (N W : Int) : Int := N * (W + 1)
def epochI (N W : Int) : Int := 3 * (N * (W + 1)) + 4
def fieldsI (W : Int) : Int := (W - 8) * (W - 1)
def upP (a b : Int) : Int := (a + b - 1) / b
def lagI (N W K : Int) : Int := 2 * upP (epochI N W) K + 2 * (W - 7)
def settleI (N W K : Int) : Int := upP (2 * epochI N W + drainI N W) K + 2

theorem mul_le_of {a b A B : Int} (ha : 0 ≤ a) (hb : 0 ≤ b) (h1 : a ≤ A) (h2 : b ≤ B) : 0 ≤ a * b ∧ a * b ≤ A * B :=
  ⟨Int.mul_nonneg ha hb, Int.mul_le_mul h1 h2 hb (by omega)⟩
theorem nw_bd {N W R K : Int} (h : May N W R K) : 16 ≤ N * W ∧ N * W ≤ 4194304 := by
  have := Int.mul_le_mul h.n0 h.w0 (by omega) (by have := h.n0; omega)
  exact ⟨by omega, h.nw⟩
theorem drain_eq (N W : Int) : drainI N W = N * W + N := by unfold drainI; rw [Int.mul_add]; omega
theorem drain_bd {N W R K : Int} (h : May N W R K) : 17 ≤ drainI N W ∧ drainI N W ≤ 5242880 := by
  have := nw_bd h
  have := h.n0; have := h.n1
  rw [drain_eq]; omega
theorem epoch_eq (N W : Int) : epochI N W = 3 * drainI N W + 4 := rfl
theorem epoch_bd {N W R K : Int} (h : May N W R K) : 55 ≤ epochI N W ∧ epochI N W ≤ 15728644 := by
  have := drain_bd h
  rw [epoch_eq]; omega
theorem fields_bd {W : Int} (h0 : 16 ≤ W) (h1 : W ≤ 256) : 120 ≤ fieldsI W ∧ fieldsI W ≤ 63240 := by
  have a := Int.mul_le_mul (show (8 : Int) ≤ W - 8 by omega) (show (15 : Int) ≤ W - 1 by omega) (by omega) (by omega)
  have b := Int.mul_le_mul (show W - 8 ≤ 248 by omega) (show W - 1 ≤ 255 by omega) (by omega) (by omega)
  unfold fieldsI; omega
theorem upP_bd {a b : Int} (ha : 0 ≤ a) (hb : 1 ≤ b) : 0 ≤ upP a b ∧ upP a b ≤ a ∧ a ≤ b * upP a b ∧ b * upP a b < a + b := by
  unfold upP
  have h1 := Int.emod_add_mul_ediv (a + b - 1) b
  have h2 := Int.emod_nonneg (a + b - 1) (show b ≠ 0 by omega)
  have h3 := Int.emod_lt_of_pos (a + b - 1) (show 0 < b by omega)
  have h4 : 0 ≤ (a + b - 1) / b := Int.ediv_nonneg (by omega) (by omega)
  refine ⟨h4, ?_, by omega, by omega⟩
  by_cases h5 : a = 0
  · subst h5
    have : (0 + b - 1) / b = 0 := Int.ediv_eq_zero_of_lt (by omega) (by omega)
    omega
  · have h6 : (a + b - 1) / b < a + 1 := by
      apply Int.ediv_lt_of_lt_mul (by omega)
      have h7 : a * 1 ≤ a * b := Int.mul_le_mul_of_nonneg_left hb ha
      have : (a + 1) * b = a * b + b := by rw [Int.add_mul]; omega
      omega
    omega
theorem lag_bd {N W R K : Int} (h : May N W R K) : 0 ≤ lagI N W K ∧ lagI N W K ≤ 40000000 := by
  have e := epoch_bd h
  have u := upP_bd (a := epochI N W) (b := K) (by omega) h.k0
  have := h.w0; have := h.w1
  unfold lagI; omega
theorem settle_bd {N W R K : Int} (h : May N W R K) : 0 ≤ settleI N W K ∧ settleI N W K ≤ 40000000 := by
  have e := epoch_bd h
  have d := drain_bd h
  have u := upP_bd (a := 2 * epochI N W + drainI N W) (b := K) (by omega) h.k0
  unfold settleI; omega

/-- How many accesses an operation makes at most. -/
def eachI (W K : Int) : Int := 256 + 100 * (W + K)
def pauseI (N W R K kind blocks : Int) : Int :=
  if mayB N W R K = true then
    (if kind = 1 then 512 + clampI blocks 0 (W - 7) * eachI W K else if kind = 10 then 256 + 200 * K else if 2 ≤ kind ∧ kind ≤ 9 then 512 else 0)
  else 0

/-! ### With more units for each block -/
theorem upP_mono {a b c : Int} (ha : 0 ≤ a) (hb : 1 ≤ b) (h : b ≤ c) : upP a c ≤ upP a b := by
  have h1 := upP_bd ha hb
  have h2 := upP_bd (b := c) ha (by omega)
  by_cases e : upP a c ≤ upP a b
  · exact e
  · exfalso
    have h3 : c * (upP a b + 1) ≤ c * upP a c := Int.mul_le_mul_of_nonneg_left (by omega) (by omega)
    have h4 : b * upP a b ≤ c * upP a b := Int.mul_le_mul_of_nonneg_right h (by omega)
    rw [Int.mul_add] at h3
    omega
theorem lag_mono {N W R K K' : Int} (h : May N W R K) (hK : K ≤ K') : lagI N W K' ≤ lagI N W K := by
  have := upP_mono (a := epochI N W) (by have := epoch_bd h; omega) h.k0 hK
  unfold lagI; omega
theorem settle_mono {N W R K K' : Int} (h : May N W R K) (hK : K ≤ K') : settleI N W K' ≤ settleI N W K := by
  have := upP_mono (a := 2 * epochI N W + drainI N W) (by have := epoch_bd h; have := drain_bd h; omega) h.k0 hK
  unfold settleI; omega
theorem pause_mono {N W R K K' kind blocks : Int} (h : May N W R K) (h' : May N W R K') (hK : K ≤ K') : pauseI N W R K kind blocks ≤ pauseI N W R K' kind blocks := by
  unfold pauseI
  rw [if_pos (mayB_mk h), if_pos (mayB_mk h')]
  have hc := clamp_bd (n := blocks) (show 0 ≤ W - 7 by have := h.w0; omega)
  split
  · have : clampI blocks 0 (W - 7) * eachI W K ≤ clampI blocks 0 (W - 7) * eachI W K' := Int.mul_le_mul_of_nonneg_left (by unfold eachI; omega) hc.1
    omega
  · split
    · omega
    · exact Int.le_refl _
theorem pause_bd {N W R K kind blocks : Int} (h : May N W R K) : 0 ≤ pauseI N W R K kind blocks ∧ pauseI N W R K kind blocks ≤ 2000000000 := by
  unfold pauseI
  rw [if_pos (mayB_mk h)]
  have hc := clamp_bd (n := blocks) (show 0 ≤ W - 7 by have := h.w0; omega)
  have hw := h.w0; have hw1 := h.w1; have hk := h.k0; have hk1 := h.k1
  have he : 0 ≤ eachI W K ∧ eachI W K ≤ 6579456 := by unfold eachI; omega
  have hm := mul_le_of hc.1 he.1 (show clampI blocks 0 (W - 7) ≤ 249 by omega) he.2
  split
  · omega
  · split
    · omega
    · split <;> omega

/-! ### Half -/
theorem lag_half {N W R K : Int} (h : May N W R K) (hK : 24 * (W + 1) ≤ K) (hN : 40 * W ≤ N) : lagI N W K < (N + 1) / 2 := by
  have hw := h.w0; have hn := h.n0
  have e := epoch_bd h
  have u := upP_bd (a := epochI N W) (b := K) (by omega) h.k0
  -- 24 (W + 1) up <= K up < 3 N (W + 1) + 4 + K ; so it is enough to compare
  have h1 : upP (epochI N W) K ≤ upP (epochI N W) (24 * (W + 1)) := upP_mono (by omega) (by omega) hK
  have u2 := upP_bd (a := epochI N W) (b := 24 * (W + 1)) (by omega) (by omega)
  generalize hv : upP (epochI N W) (24 * (W + 1)) = v at *
  -- 8 v <= N + 8 or so
  have h2 : 8 * v < N + 10 := by
    by_cases hc : 8 * v < N + 10
    · exact hc
    · exfalso
      have h3 : (W + 1) * (N + 10) ≤ (W + 1) * (8 * v) := Int.mul_le_mul_of_nonneg_left (by omega) (by omega)
      have e1 : 24 * (W + 1) * v = 3 * ((W + 1) * (8 * v)) := by
        rw [show 24 * (W + 1) * v = 24 * ((W + 1) * v) from Int.mul_assoc _ _ _, show (W + 1) * (8 * v) = 8 * ((W + 1) * v) from Int.mul_left_comm _ _ _]; omega
      have e2 : (W + 1) * (N + 10) = N * (W + 1) + 10 * (W + 1) := by rw [Int.mul_add, Int.mul_comm (W + 1) N, Int.mul_comm (W + 1) 10]
      have e3 : epochI N W = 3 * (N * (W + 1)) + 4 := rfl
      have u3 := u2.2.2.2
      rw [e1, e3] at u3
      omega
  unfold lagI
  omega

end Go.Proofs.YtljdbaddockfcaaGreat.Pk
