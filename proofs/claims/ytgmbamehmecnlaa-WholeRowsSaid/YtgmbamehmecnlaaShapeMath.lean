/-
  Plain facts on shapes: widths, sizes, places. No program in sight.
-/
import Derived.Test.YtgmbamehmecnlaaNumMath
namespace Go.Proofs.Ytgmbamehmecnlaa.Pk
open Go.RowKit
set_option linter.unusedVariables false
set_option linter.unusedSimpArgs false

/-- Is it a width? -/
def widB (W : Int) : Bool := decide (16 ≤ W ∧ W ≤ 256)
theorem widB_yes {W : Int} (h : widB W = true) : 16 ≤ W ∧ W ≤ 256 := of_decide_eq_true h
theorem widB_mk {W : Int} (h0 : 16 ≤ W) (h1 : W ≤ 256) : widB W = true := decide_eq_true ⟨h0, h1⟩
theorem widB_mk' {W : Int} (h : ¬ (16 ≤ W ∧ W ≤ 256)) : widB W = false := decide_eq_false h
/-- How many leaves an object of so many fields has. -/
def leavesI (W n : Int) : Int := if n ≤ W - 8 then 0 else upP n (W - 1)
def startI (l : Int) : Int := if l = -1 then 8 else 1
def aheadI (W l : Int) : Int := mulL [l, W - 1]
/-- What is wrong with a width and so many fields. -/
def wrongE (W n : Int) : Int := if widB W = true then (if n < 0 ∨ fieldsI W < n then 3 else 0) else 1
/-- What is wrong with a width and two numbers of fields. -/
def sizeE (W p d : Int) : Int := if widB W = true then (if p < 0 ∨ d < 0 ∨ fieldsI W < p + d then 3 else 0) else 1
def blocksV (W p d : Int) : Int := if sizeE W p d = 0 then 1 + leavesI W (p + d) else 0
def placeE (W n i : Int) : Int := if wrongE W n = 0 then (if i < 0 ∨ n ≤ i then 7 else 0) else wrongE W n
def placeL (W n i : Int) : Int := if placeE W n i = 0 then (if n ≤ W - 8 then -1 else i / (W - 1)) else 0
def placeO (W n i : Int) : Int := if placeE W n i = 0 then (if n ≤ W - 8 then 8 + i else 1 + i % (W - 1)) else 0
theorem wrongE_ok {W n : Int} (h : wrongE W n = 0) : 16 ≤ W ∧ W ≤ 256 ∧ 0 ≤ n ∧ n ≤ fieldsI W := by
  unfold wrongE at h
  split at h
  · rename_i hw
    have := widB_yes hw
    split at h
    · cases h
    · omega
  · cases h
theorem wrongE_mk {W n : Int} (h0 : 16 ≤ W) (h1 : W ≤ 256) (h2 : 0 ≤ n) (h3 : n ≤ fieldsI W) : wrongE W n = 0 := by
  unfold wrongE; rw [if_pos (widB_mk h0 h1), if_neg (by omega)]
theorem sizeE_ok {W p d : Int} (h : sizeE W p d = 0) : 16 ≤ W ∧ W ≤ 256 ∧ 0 ≤ p ∧ 0 ≤ d ∧ p + d ≤ fieldsI W := by
  unfold sizeE at h
  split at h
  · rename_i hw
    have := widB_yes hw
    split at h
    · cases h
    · omega
  · cases h
theorem placeE_ok {W n i : Int} (h : placeE W n i = 0) : wrongE W n = 0 ∧ 0 ≤ i ∧ i < n := by
  unfold placeE at h
  split at h
  · split at h
    · cases h
    · exact ⟨by assumption, by omega, by omega⟩
  · exact absurd h (by assumption)
theorem placeE_mk {W n i : Int} (h : wrongE W n = 0) (h0 : 0 ≤ i) (h1 : i < n) : placeE W n i = 0 := by
  unfold placeE; rw [if_pos h, if_neg (by omega)]
/-- The leaves of an object that is not small. -/
theorem leaves_big {W n : Int} (h0 : 16 ≤ W) (h1 : W ≤ 256) (h2 : W - 8 < n) (h3 : n ≤ fieldsI W) :
    1 ≤ leavesI W n ∧ leavesI W n ≤ W - 8 ∧ n ≤ leavesI W n * (W - 1) ∧ leavesI W n * (W - 1) < n + W - 1 := by
  have e : leavesI W n = upP n (W - 1) := by unfold leavesI; rw [if_neg (by omega)]
  have u := upP_bd (a := n) (b := W - 1) (by omega) (by omega)
  rw [e]
  rw [Int.mul_comm (W - 1)] at u
  refine ⟨?_, ?_, u.2.2.1, by omega⟩
  · by_cases h : 1 ≤ upP n (W - 1)
    · exact h
    · have : upP n (W - 1) = 0 := by omega
      rw [this, Int.zero_mul] at u
      omega
  · by_cases h : upP n (W - 1) ≤ W - 8
    · exact h
    · have h4 : (W - 8 + 1) * (W - 1) ≤ upP n (W - 1) * (W - 1) := Int.mul_le_mul_of_nonneg_right (by omega) (by omega)
      rw [Int.add_mul] at h4
      have : (W - 8) * (W - 1) = fieldsI W := rfl
      omega
theorem leaves_small {W n : Int} (h : n ≤ W - 8) : leavesI W n = 0 := by unfold leavesI; rw [if_pos h]
theorem leaves_bd {W n : Int} (h0 : 16 ≤ W) (h1 : W ≤ 256) (h3 : n ≤ fieldsI W) : 0 ≤ leavesI W n ∧ leavesI W n ≤ W - 8 := by
  by_cases h : n ≤ W - 8
  · rw [leaves_small h]; omega
  · have := leaves_big h0 h1 (by omega) h3; omega
/-- Products with a leaf that there is. -/
theorem leaf_lt {m a b : Int} (hm : 1 ≤ m) (h : a < b) : a * m + m ≤ b * m := by
  have : (a + 1) * m ≤ b * m := Int.mul_le_mul_of_nonneg_right (by omega) (by omega)
  rw [Int.add_mul] at this
  omega
theorem ahead_neg {W l : Int} (h0 : 16 ≤ W) (h1 : W ≤ 256) (h : l ≤ 0) : aheadI W l = 0 := by
  unfold aheadI
  rw [mulL_two, cnt_lo h, cnt_id (by omega) (by omega), times_min (by omega) (by omega) (by omega) (by omega), Int.zero_mul]
  rfl
theorem ahead_id {W l : Int} (h0 : 16 ≤ W) (h1 : W ≤ 256) (h : 0 ≤ l) (h2 : l ≤ 256) : aheadI W l = l * (W - 1) := by
  unfold aheadI
  have := mul_le_of h (show 0 ≤ W - 1 by omega) h2 (show W - 1 ≤ 255 by omega)
  exact mul2_id (by omega) (by omega) (by omega) (by omega) (by omega)
/-- A field's leaf and what is ahead of it. -/
theorem part_of {m i : Int} (hm : 1 ≤ m) (hi : 0 ≤ i) : i = (i / m) * m + i % m ∧ 0 ≤ i % m ∧ i % m < m ∧ 0 ≤ i / m :=
  ⟨by have := Int.emod_add_mul_ediv i m; rw [Int.mul_comm] at this; omega, Int.emod_nonneg _ (by omega), Int.emod_lt_of_pos _ (by omega), Int.ediv_nonneg hi (by omega)⟩
theorem place_small {W n i : Int} (h : placeE W n i = 0) (hn : n ≤ W - 8) : placeL W n i = -1 ∧ placeO W n i = 8 + i := by
  unfold placeL placeO; rw [if_pos h, if_pos hn, if_pos h, if_pos hn]; exact ⟨rfl, rfl⟩
theorem place_big {W n i : Int} (h : placeE W n i = 0) (hn : W - 8 < n) : placeL W n i = i / (W - 1) ∧ placeO W n i = 1 + i % (W - 1) := by
  unfold placeL placeO; rw [if_pos h, if_neg (by omega), if_pos h, if_neg (by omega)]; exact ⟨rfl, rfl⟩
theorem place_wrong {W n i : Int} (h : placeE W n i ≠ 0) : placeL W n i = 0 ∧ placeO W n i = 0 := by
  unfold placeL placeO; rw [if_neg h, if_neg h]; exact ⟨rfl, rfl⟩

/-! ### Going through all fields -/
/-! ### All leaves together -/
end Go.Proofs.Ytgmbamehmecnlaa.Pk
