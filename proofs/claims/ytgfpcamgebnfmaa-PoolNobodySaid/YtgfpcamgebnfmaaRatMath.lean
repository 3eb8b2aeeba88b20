/-
  Plain facts on numbers that stop at a bound: no program in sight.
-/
import Derived.Test.YtgfpcamgebnfmaaMem
namespace Go.Proofs.Ytgfpcamgebnfmaa.Pk
open Go.RowKit
set_option linter.unusedVariables false
set_option linter.unusedSimpArgs false

/-- A number between two others. -/
def clampI (n lo hi : Int) : Int := if hi < n then hi else if n < lo then lo else n
/-- What a number counts as. -/
def cnt (n : Int) : Int := clampI n 0 1125899906842624
/-- What one divides by. -/
def byI (n : Int) : Int := if cnt n = 0 then 1 else cnt n
/-- A product of two numbers that stops at the bound. -/
def timesI (a b : Int) : Int := if 0 < b ∧ 1125899906842624 / b < a then 1125899906842624 else a * b
def downI (a b : Int) : Int := cnt a / byI b
def upI (a b : Int) : Int := (cnt a + byI b - 1) / byI b
def leastI (t s : Int) : Int := if cnt t = 0 then 1 else if cnt s = 0 then 0 else upI t s

theorem cnt_bd (n : Int) : 0 ≤ cnt n ∧ cnt n ≤ 1125899906842624 := by
  unfold cnt clampI; split
  · omega
  · split <;> omega
theorem cnt_id {n : Int} (h0 : 0 ≤ n) (h1 : n ≤ 1125899906842624) : cnt n = n := by
  unfold cnt clampI; rw [if_neg (by omega), if_neg (by omega)]
theorem cnt_hi {n : Int} (h1 : 1125899906842624 ≤ n) : cnt n = 1125899906842624 := by
  unfold cnt clampI; split
  · rfl
  · rw [if_neg (by omega)]; omega
theorem cnt_lo {n : Int} (h1 : n ≤ 0) : cnt n = 0 := by
  unfold cnt clampI; rw [if_neg (by omega)]; split
  · rfl
  · omega
theorem cnt_min (n : Int) : cnt n = max 0 (min n 1125899906842624) := by
  unfold cnt clampI; split
  · omega
  · split <;> omega
theorem byI_bd (n : Int) : 1 ≤ byI n ∧ byI n ≤ 1125899906842624 := by
  have := cnt_bd n
  unfold byI; split <;> omega
theorem byI_max (n : Int) : byI n = max (cnt n) 1 := by
  have := cnt_bd n
  unfold byI; split <;> omega
theorem byI_clamp (n : Int) : byI n = clampI n 1 1125899906842624 := by
  unfold byI cnt clampI; split <;> split <;> (try split) <;> (try split) <;> (try split) <;> omega
theorem downI_bd (a b : Int) : 0 ≤ downI a b ∧ downI a b ≤ cnt a := by
  have h1 := cnt_bd a
  have h2 := byI_bd b
  unfold downI
  exact ⟨Int.ediv_nonneg h1.1 (by omega), Int.ediv_le_self _ h1.1⟩
/-- Down, and the rest. -/
theorem down_rest (a b : Int) : byI b * downI a b + cnt a % byI b = cnt a ∧ 0 ≤ cnt a % byI b ∧ cnt a % byI b < byI b := by
  have h2 := byI_bd b
  unfold downI
  exact ⟨by have := Int.emod_add_mul_ediv (cnt a) (byI b); omega, Int.emod_nonneg _ (by omega), Int.emod_lt_of_pos _ (by omega)⟩
theorem upI_eq (a b : Int) : upI a b = if 0 < cnt a % byI b then downI a b + 1 else downI a b := by
  obtain ⟨h1, h2, h3⟩ := down_rest a b
  have hb := byI_bd b
  unfold upI
  by_cases h : 0 < cnt a % byI b
  · rw [if_pos h]
    rw [show cnt a + byI b - 1 = (cnt a % byI b - 1) + (downI a b + 1) * byI b by rw [Int.add_mul, Int.mul_comm (downI a b)]; omega]
    rw [Int.add_mul_ediv_right _ _ (by omega), Int.ediv_eq_zero_of_lt (by omega) (by omega)]
    omega
  · rw [if_neg h]
    rw [show cnt a + byI b - 1 = (byI b - 1) + downI a b * byI b by rw [Int.mul_comm (downI a b)]; omega]
    rw [Int.add_mul_ediv_right _ _ (by omega), Int.ediv_eq_zero_of_lt (by omega) (by omega)]
    omega
theorem upI_bd (a b : Int) : downI a b ≤ upI a b ∧ upI a b ≤ downI a b + 1 := by
  rw [upI_eq]; split <;> omega
theorem upI_most (a b : Int) : 0 ≤ upI a b ∧ upI a b ≤ cnt a := by
  have h := downI_bd a b
  obtain ⟨h1, h2, h3⟩ := down_rest a b
  have hb := byI_bd b
  rw [upI_eq]
  split
  · refine ⟨by omega, ?_⟩
    have : 1 * downI a b ≤ byI b * downI a b := Int.mul_le_mul_of_nonneg_right hb.1 h.1
    omega
  · omega
/-- Up times what one divides by. -/
theorem upI_mul (a b : Int) : cnt a ≤ byI b * upI a b ∧ byI b * upI a b < cnt a + byI b := by
  obtain ⟨h1, h2, h3⟩ := down_rest a b
  rw [upI_eq]
  split
  · rw [Int.mul_add]; omega
  · omega

theorem times_min {a b : Int} (ha : 0 ≤ a) (hb : 0 ≤ b) (ha2 : a ≤ 1125899906842624) (hb2 : b ≤ 1125899906842624) : timesI a b = min 1125899906842624 (a * b) := by
  unfold timesI
  by_cases h : 0 < b ∧ 1125899906842624 / b < a
  · rw [if_pos h]
    have h1 := Int.emod_add_mul_ediv 1125899906842624 b
    have h2 := Int.emod_lt_of_pos 1125899906842624 h.1
    have h3 : b * (1125899906842624 / b + 1) ≤ b * a := Int.mul_le_mul_of_nonneg_left (by omega) hb
    rw [Int.mul_add, Int.mul_comm b a] at h3
    omega
  · rw [if_neg h]
    by_cases hb0 : b = 0
    · subst hb0; rw [Int.mul_zero]; decide
    · have hp : 0 < b := by omega
      have h4 : a ≤ 1125899906842624 / b := by
        by_cases h5 : 1125899906842624 / b < a
        · exact absurd ⟨hp, h5⟩ h
        · omega
      have h5 : b * a ≤ b * (1125899906842624 / b) := Int.mul_le_mul_of_nonneg_left h4 hb
      have h6 := Int.mul_ediv_self_le (x := 1125899906842624) (k := b) (by omega)
      rw [Int.mul_comm b a] at h5
      omega
theorem times_bd {a b : Int} (ha : 0 ≤ a) (hb : 0 ≤ b) (ha2 : a ≤ 1125899906842624) (hb2 : b ≤ 1125899906842624) : 0 ≤ timesI a b ∧ timesI a b ≤ 1125899906842624 := by
  rw [times_min ha hb ha2 hb2]
  have := Int.mul_nonneg ha hb
  omega

/-! ### Sums and products of lists -/
def addL (l : List Int) : Int := l.foldl (fun s n => cnt (s + cnt n)) 0
def mulL (l : List Int) : Int := l.foldl (fun s n => timesI s (cnt n)) 1
/-- The k first numbers' sum, and product. -/
def addTo (l : List Int) (k : Nat) : Int := addL (l.take k)
def mulTo (l : List Int) (k : Nat) : Int := mulL (l.take k)
theorem take_nth {l : List Int} {k : Nat} (h : k < l.length) : l.take (k + 1) = l.take k ++ [nth l k] := by
  rw [List.take_succ_eq_append_getElem h]; unfold nth; simp [List.getD, h]
theorem addTo_zero (l : List Int) : addTo l 0 = 0 := rfl
theorem addTo_succ {l : List Int} {k : Nat} (h : k < l.length) : addTo l (k + 1) = cnt (addTo l k + cnt (nth l k)) := by
  unfold addTo addL; rw [take_nth h, List.foldl_append]; rfl
theorem addTo_all (l : List Int) : addTo l l.length = addL l := by unfold addTo; rw [List.take_length]
theorem mulTo_zero (l : List Int) : mulTo l 0 = 1 := rfl
theorem mulTo_succ {l : List Int} {k : Nat} (h : k < l.length) : mulTo l (k + 1) = timesI (mulTo l k) (cnt (nth l k)) := by
  unfold mulTo mulL; rw [take_nth h, List.foldl_append]; rfl
theorem mulTo_all (l : List Int) : mulTo l l.length = mulL l := by unfold mulTo; rw [List.take_length]

/-- The sum, the product, with no bound. -/
def sumC : List Int → Int
  | [] => 0
  | n :: l => cnt n + sumC l
def prodC : List Int → Int
  | [] => 1
  | n :: l => cnt n * prodC l
theorem sumC_nn (l : List Int) : 0 ≤ sumC l := by
  induction l with
  | nil => exact Int.le_refl _
  | cons n l ih => have := cnt_bd n; show 0 ≤ cnt n + sumC l; omega
theorem prodC_nn (l : List Int) : 0 ≤ prodC l := by
  induction l with
  | nil => decide
  | cons n l ih => exact Int.mul_nonneg (cnt_bd n).1 ih
theorem sumC_append (l m : List Int) : sumC (l ++ m) = sumC l + sumC m := by
  induction l with
  | nil => show sumC m = 0 + sumC m; omega
  | cons n l ih => show cnt n + sumC (l ++ m) = cnt n + sumC l + sumC m; rw [ih]; omega
theorem prodC_append (l m : List Int) : prodC (l ++ m) = prodC l * prodC m := by
  induction l with
  | nil => show prodC m = 1 * prodC m; omega
  | cons n l ih => show cnt n * prodC (l ++ m) = cnt n * prodC l * prodC m; rw [ih, Int.mul_assoc]
theorem sumC_one (n : Int) : sumC [n] = cnt n := by show cnt n + 0 = cnt n; omega
theorem prodC_one (n : Int) : prodC [n] = cnt n := by show cnt n * 1 = cnt n; omega
theorem sumC_reverse (l : List Int) : sumC l.reverse = sumC l := by
  induction l with
  | nil => rfl
  | cons n l ih => rw [List.reverse_cons, sumC_append, ih, sumC_one]; show sumC l + cnt n = cnt n + sumC l; omega
theorem prodC_reverse (l : List Int) : prodC l.reverse = prodC l := by
  induction l with
  | nil => rfl
  | cons n l ih => rw [List.reverse_cons, prodC_append, ih, prodC_one]; show prodC l * cnt n = cnt n * prodC l; exact Int.mul_comm _ _

theorem addL_sum (l : List Int) : addL l = min 1125899906842624 (sumC l) := by
  have h : ∀ k, k ≤ l.length → addTo l k = min 1125899906842624 (sumC (l.take k)) := by
    intro k
    induction k with
    | zero => intro _; rfl
    | succ k ih =>
      intro hk
      rw [addTo_succ hk, ih (by omega), take_nth hk, sumC_append, sumC_one, cnt_min]
      have h1 := sumC_nn (l.take k)
      have h2 := cnt_bd (nth l k)
      omega
  have := h l.length (Nat.le_refl _)
  rwa [addTo_all, List.take_length] at this
theorem addL_bd (l : List Int) : 0 ≤ addL l ∧ addL l ≤ 1125899906842624 := by
  rw [addL_sum]; have := sumC_nn l; omega
theorem addTo_bd (l : List Int) (k : Nat) : 0 ≤ addTo l k ∧ addTo l k ≤ 1125899906842624 := addL_bd _
theorem min_mul {p c : Int} (hp : 0 ≤ p) (hc : 0 ≤ c) : min 1125899906842624 (min 1125899906842624 p * c) = min 1125899906842624 (p * c) := by
  by_cases h : p ≤ 1125899906842624
  · rw [show min 1125899906842624 p = p by omega]
  · rw [show min 1125899906842624 p = 1125899906842624 by omega]
    by_cases h0 : c = 0
    · subst h0; rw [Int.mul_zero, Int.mul_zero]
    · have h1 : 1125899906842624 * 1 ≤ 1125899906842624 * c := Int.mul_le_mul_of_nonneg_left (by omega) (by decide)
      have h2 : 1125899906842624 * c ≤ p * c := Int.mul_le_mul_of_nonneg_right (by omega) hc
      omega
theorem mulTo_prod (l : List Int) : ∀ k, k ≤ l.length → mulTo l k = min 1125899906842624 (prodC (l.take k)) := by
  intro k
  induction k with
  | zero => intro _; rfl
  | succ k ih =>
    intro hk
    have h1 := prodC_nn (l.take k)
    have h2 := cnt_bd (nth l k)
    rw [mulTo_succ hk, ih (by omega), take_nth hk, prodC_append, prodC_one, times_min (by omega) h2.1 (by omega) h2.2, min_mul h1 h2.1]
theorem mulL_prod (l : List Int) : mulL l = min 1125899906842624 (prodC l) := by
  have := mulTo_prod l l.length (Nat.le_refl _)
  rwa [mulTo_all, List.take_length] at this
theorem mulL_bd (l : List Int) : 0 ≤ mulL l ∧ mulL l ≤ 1125899906842624 := by
  rw [mulL_prod]; have := prodC_nn l; omega
theorem mulTo_bd (l : List Int) (k : Nat) : 0 ≤ mulTo l k ∧ mulTo l k ≤ 1125899906842624 := mulL_bd _
theorem addL_reverse (l : List Int) : addL l.reverse = addL l := by rw [addL_sum, addL_sum, sumC_reverse]
theorem mulL_reverse (l : List Int) : mulL l.reverse = mulL l := by rw [mulL_prod, mulL_prod, prodC_reverse]
theorem addL_snoc (l : List Int) (n : Int) : addL (l ++ [n]) = cnt (addL l + cnt n) := by
  unfold addL; rw [List.foldl_append]; rfl
theorem addL_two (a b : Int) : addL [a, b] = cnt (cnt a + cnt b) := by
  show cnt (cnt (0 + cnt a) + cnt b) = _
  rw [Int.zero_add, cnt_id (cnt_bd a).1 (cnt_bd a).2]
theorem mulL_two (a b : Int) : mulL [a, b] = timesI (cnt a) (cnt b) := by
  show timesI (timesI 1 (cnt a)) (cnt b) = _
  rw [times_min (by decide) (cnt_bd a).1 (by decide) (cnt_bd a).2, Int.one_mul]
  have := cnt_bd a
  rw [show min 1125899906842624 (cnt a) = cnt a by omega]
/-- Is one of them nought? -/
def anyZero (l : List Int) (k : Nat) : Prop := ∃ j, j < k ∧ cnt (nth l j) = 0
theorem prodC_zero {l : List Int} {j : Nat} (hj : j < l.length) (h : cnt (nth l j) = 0) : prodC l = 0 := by
  induction l generalizing j with
  | nil => simp at hj
  | cons n l ih =>
    cases j with
    | zero => show cnt n * prodC l = 0; rw [show cnt n = 0 from h, Int.zero_mul]
    | succ j => show cnt n * prodC l = 0; rw [ih (j := j) (by simpa using hj) (by unfold nth at h ⊢; simpa using h), Int.mul_zero]
theorem mulL_zero {l : List Int} {j : Nat} (hj : j < l.length) (h : cnt (nth l j) = 0) : mulL l = 0 := by
  rw [mulL_prod, prodC_zero hj h]; decide

/-! ### Least -/
theorem leastI_cases (t s : Int) : (leastI t s = 0 ∧ cnt s = 0 ∧ 0 < cnt t) ∨
    (1 ≤ leastI t s ∧ leastI t s ≤ 1125899906842624 ∧ upI t (leastI t s) ≤ cnt s ∧ (leastI t s = 1 ∨ cnt s < upI t (leastI t s - 1))) := by
  have ht := cnt_bd t
  have hs := cnt_bd s
  have hu : ∀ k, 1 ≤ k → k ≤ 1125899906842624 → byI k = k := by
    intro k h1 h2; unfold byI; rw [cnt_id (by omega) h2, if_neg (by omega)]
  unfold leastI
  by_cases h0 : cnt t = 0
  · refine .inr ?_
    rw [if_pos h0]
    have := upI_most t 1
    refine ⟨by decide, by decide, by omega, .inl rfl⟩
  · rw [if_neg h0]
    by_cases h1 : cnt s = 0
    · rw [if_pos h1]; exact .inl ⟨rfl, h1, by omega⟩
    · rw [if_neg h1]
      refine .inr ?_
      have hb : byI s = cnt s := by unfold byI; rw [if_neg h1]
      have g1 := upI_mul t s
      have g2 := upI_most t s
      rw [hb] at g1
      generalize hk : upI t s = k at *
      have k1 : 1 ≤ k := by
        by_cases hk0 : k = 0
        · subst hk0; omega
        · omega
      refine ⟨k1, by omega, ?_, ?_⟩
      · have g3 := upI_mul t k
        rw [hu k k1 (by omega)] at g3
        -- k * up < t + k <= s * k + k
        have : k * upI t k < k * (cnt s + 1) := by rw [Int.mul_add, Int.mul_comm k (cnt s)]; omega
        have := Int.lt_of_mul_lt_mul_left this (by omega)
        omega
      · by_cases hk1 : k = 1
        · exact .inl hk1
        · refine .inr ?_
          have g3 := upI_mul t (k - 1)
          rw [hu (k - 1) (by omega) (by omega)] at g3
          -- s * k < t + s, so s * (k - 1) < t <= (k - 1) * up
          have : (k - 1) * cnt s < (k - 1) * upI t (k - 1) := by rw [Int.mul_comm, Int.mul_sub]; omega
          exact Int.lt_of_mul_lt_mul_left this (by omega)

end Go.Proofs.Ytgfpcamgebnfmaa.Pk
