/-
  Plain facts on shapes: widths, sizes, places. No program in sight.
-/
import Derived.Test.YtljdbaddockfcaaGreatNumMath
namespace Go.Proofs.YtljdbaddockfcaaGreat.Pk
open Go.RowKit
set_option linter.unusedVariables false
set_option linter.unusedSimpArgs false

/-- Is it a width? -/
def widB (W : Int) : Bool := decide (16 ≤ W ∧ W ≤ 256)
theorem widB_yes {W : Int} (h : widB W = true) : 16 ≤ W ∧ W ≤ 256 := of_decide_eq_true h
theorem widB_no {W : Int} (h : widB W = false) : ¬ (16 ≤ W ∧ W ≤ 256) := of_decide_eq_false h
theorem widB_mk {W : Int} (h0 : 16 ≤ W) (h1 : W ≤ 256) : widB W = true := decide_eq_true ⟨h0, h1⟩
theorem widB_mk' {W : Int} (h : ¬ (16 ≤ W ∧ W ≤ 256)) : widB W = false := decide_eq_false h
/-- How many leaves an object of so many fields has. -/
def leavesI (W n : Int) : Int := if n ≤ W - 8 then 0 else upP n (W - 1)
def startI (l : Int) : Int := if l = -1 then 8 else 1
def aheadI (W l : Int) : Int := mulL [l, W - 1]
/-- How many fields lie in a leaf, or the head. -/
def withinI (W n l : Int) : Int :=
  if l = -1 ∧ n ≤ W - 8 then n else if l < 0 ∨ leavesI W n ≤ l then 0 else min (n - l * (W - 1)) (W - 1)
/-- What is wrong with a width and so many fields. -/
def wrongE (W n : Int) : Int := if widB W = true then (if n < 0 ∨ fieldsI W < n then 3 else 0) else 1
/-- What is wrong with a width and two numbers of fields. -/
def sizeE (W p d : Int) : Int := if widB W = true then (if p < 0 ∨ d < 0 ∨ fieldsI W < p + d then 3 else 0) else 1
def blocksV (W p d : Int) : Int := if sizeE W p d = 0 then 1 + leavesI W (p + d) else 0
def placeE (W n i : Int) : Int := if wrongE W n = 0 then (if i < 0 ∨ n ≤ i then 7 else 0) else wrongE W n
def placeL (W n i : Int) : Int := if placeE W n i = 0 then (if n ≤ W - 8 then -1 else i / (W - 1)) else 0
def placeO (W n i : Int) : Int := if placeE W n i = 0 then (if n ≤ W - 8 then 8 + i else 1 + i % (W - 1)) else 0
def backE (W n l a : Int) : Int := if wrongE W n = 0 then (if a < startI l ∨ startI l + withinI W n l ≤ a then 7 else 0) else wrongE W n
def backV (W n l a : Int) : Int := if backE W n l a = 0 then (if n ≤ W - 8 then a - 8 else l * (W - 1) + a - 1) else 0
def fullV (W n l : Int) : Int := if wrongE W n = 0 then withinI W n l else 0
def largestV (W b : Int) : Int := if widB W = true then (if b < 1 ∨ W - 7 < b then 0 else if b = 1 then W - 8 else (b - 1) * (W - 1)) else 0

theorem wrongE_ok {W n : Int} (h : wrongE W n = 0) : 16 ≤ W ∧ W ≤ 256 ∧ 0 ≤ n ∧ n ≤ fieldsI W := by
  unfold wrongE at h
  split at h
  · rename_i hw
    have := widB_yes hw
    split at h
    · cases h
    · omega
  · cases h
theorem wrongE_mk {W n : Int} (h0 : 16 ≤ W) (h1 : W ≤ 256) (h2 : 0 ≤ n) (h3 : n ≤ fieldsI W) : wrongE W n = 0 := by
  unfold wrongE; rw [if_pos (widB_mk h0 h1), if_neg (by omega)]
theorem sizeE_ok {W p d : Int} (h : sizeE W p d = 0) : 16 ≤ W ∧ W ≤ 256 ∧ 0 ≤ p ∧ 0 ≤ d ∧ p + d ≤ fieldsI W := by
  unfold sizeE at h
  split at h
  · rename_i hw
    have := widB_yes hw
    split at h
    · cases h
    · omega
  · cases h
theorem sizeE_mk {W p d : Int} (h0 : 16 ≤ W) (h1 : W ≤ 256) (h2 : 0 ≤ p) (h3 : 0 ≤ d) (h4 : p + d ≤ fieldsI W) : sizeE W p d = 0 := by
  unfold sizeE; rw [if_pos (widB_mk h0 h1), if_neg (by omega)]
theorem placeE_ok {W n i : Int} (h : placeE W n i = 0) : wrongE W n = 0 ∧ 0 ≤ i ∧ i < n := by
  unfold placeE at h
  split at h
  · split at h
    · cases h
    · exact ⟨by assumption, by omega, by omega⟩
  · exact absurd h (by assumption)
theorem placeE_mk {W n i : Int} (h : wrongE W n = 0) (h0 : 0 ≤ i) (h1 : i < n) : placeE W n i = 0 := by
  unfold placeE; rw [if_pos h, if_neg (by omega)]
theorem backE_ok {W n l a : Int} (h : backE W n l a = 0) : wrongE W n = 0 ∧ startI l ≤ a ∧ a < startI l + withinI W n l := by
  unfold backE at h
  split at h
  · split at h
    · cases h
    · exact ⟨by assumption, by omega, by omega⟩
  · exact absurd h (by assumption)
theorem backE_mk {W n l a : Int} (h : wrongE W n = 0) (h0 : startI l ≤ a) (h1 : a < startI l + withinI W n l) : backE W n l a = 0 := by
  unfold backE; rw [if_pos h, if_neg (by omega)]

/-- The leaves of an object that is not small. -/
theorem leaves_big {W n : Int} (h0 : 16 ≤ W) (h1 : W ≤ 256) (h2 : W - 8 < n) (h3 : n ≤ fieldsI W) :
    1 ≤ leavesI W n ∧ leavesI W n ≤ W - 8 ∧ n ≤ leavesI W n * (W - 1) ∧ leavesI W n * (W - 1) < n + W - 1 := by
  have e : leavesI W n = upP n (W - 1) := by unfold leavesI; rw [if_neg (by omega)]
  have u := upP_bd (a := n) (b := W - 1) (by omega) (by omega)
  rw [e]
  rw [Int.mul_comm (W - 1)] at u
  refine ⟨?_, ?_, u.2.2.1, by omega⟩
  · by_cases h : 1 ≤ upP n (W - 1)
    · exact h
    · have : upP n (W - 1) = 0 := by omega
      rw [this, Int.zero_mul] at u
      omega
  · by_cases h : upP n (W - 1) ≤ W - 8
    · exact h
    · have h4 : (W - 8 + 1) * (W - 1) ≤ upP n (W - 1) * (W - 1) := Int.mul_le_mul_of_nonneg_right (by omega) (by omega)
      rw [Int.add_mul] at h4
      have : (W - 8) * (W - 1) = fieldsI W := rfl
      omega
theorem leaves_small {W n : Int} (h : n ≤ W - 8) : leavesI W n = 0 := by unfold leavesI; rw [if_pos h]
theorem leaves_bd {W n : Int} (h0 : 16 ≤ W) (h1 : W ≤ 256) (h3 : n ≤ fieldsI W) : 0 ≤ leavesI W n ∧ leavesI W n ≤ W - 8 := by
  by_cases h : n ≤ W - 8
  · rw [leaves_small h]; omega
  · have := leaves_big h0 h1 (by omega) h3; omega
/-- Products with a leaf that there is. -/
theorem leaf_lt {m a b : Int} (hm : 1 ≤ m) (h : a < b) : a * m + m ≤ b * m := by
  have : (a + 1) * m ≤ b * m := Int.mul_le_mul_of_nonneg_right (by omega) (by omega)
  rw [Int.add_mul] at this
  omega
theorem leaf_le {m a b : Int} (hm : 1 ≤ m) (h : a ≤ b) : a * m ≤ b * m := Int.mul_le_mul_of_nonneg_right h (by omega)
theorem ahead_neg {W l : Int} (h0 : 16 ≤ W) (h1 : W ≤ 256) (h : l ≤ 0) : aheadI W l = 0 := by
  unfold aheadI
  rw [mulL_two, cnt_lo h, cnt_id (by omega) (by omega), times_min (by omega) (by omega) (by omega) (by omega), Int.zero_mul]
  rfl
theorem ahead_id {W l : Int} (h0 : 16 ≤ W) (h1 : W ≤ 256) (h : 0 ≤ l) (h2 : l ≤ 256) : aheadI W l = l * (W - 1) := by
  unfold aheadI
  have := mul_le_of h (show 0 ≤ W - 1 by omega) h2 (show W - 1 ≤ 255 by omega)
  exact mul2_id (by omega) (by omega) (by omega) (by omega) (by omega)
theorem ahead_bd (W l : Int) : 0 ≤ aheadI W l ∧ aheadI W l ≤ 1125899906842624 := mulL_bd _
/-- How many fields lie in a leaf. -/
theorem within_bd {W n l : Int} (h0 : 16 ≤ W) (h1 : W ≤ 256) (h2 : 0 ≤ n) (h3 : n ≤ fieldsI W) : 0 ≤ withinI W n l ∧ withinI W n l ≤ 255 := by
  unfold withinI
  split
  · omega
  · split
    · omega
    · rename_i hs hl
      by_cases h : n ≤ W - 8
      · rw [leaves_small h] at hl; omega
      · have b := leaves_big h0 h1 (by omega) h3
        have c := leaf_lt (m := W - 1) (a := l) (b := leavesI W n) (by omega) (by omega)
        omega
theorem within_head {W n : Int} (h : n ≤ W - 8) : withinI W n (-1) = n := by unfold withinI; rw [if_pos ⟨rfl, h⟩]
theorem within_none {W n l : Int} (h : n ≤ W - 8) (hl : l ≠ -1) : withinI W n l = 0 := by
  unfold withinI; rw [if_neg (fun x => hl x.1), leaves_small h, if_pos (by omega)]
theorem within_neg {W n l : Int} (h : W - 8 < n) (hl : l < 0) : withinI W n l = 0 := by
  unfold withinI; rw [if_neg (fun x => by omega), if_pos (Or.inl hl)]
theorem within_past {W n l : Int} (h : W - 8 < n) (hl : leavesI W n ≤ l) : withinI W n l = 0 := by
  unfold withinI; rw [if_neg (fun x => by omega), if_pos (Or.inr hl)]
theorem within_leaf {W n l : Int} (h : W - 8 < n) (h0 : 0 ≤ l) (hl : l < leavesI W n) : withinI W n l = min (n - l * (W - 1)) (W - 1) := by
  unfold withinI; rw [if_neg (fun x => by omega), if_neg (by omega)]
/-- A field's leaf and what is ahead of it. -/
theorem part_of {m i : Int} (hm : 1 ≤ m) (hi : 0 ≤ i) : i = (i / m) * m + i % m ∧ 0 ≤ i % m ∧ i % m < m ∧ 0 ≤ i / m :=
  ⟨by have := Int.emod_add_mul_ediv i m; rw [Int.mul_comm] at this; omega, Int.emod_nonneg _ (by omega), Int.emod_lt_of_pos _ (by omega), Int.ediv_nonneg hi (by omega)⟩
theorem part_is {m q r : Int} (h0 : 0 ≤ r) (h1 : r < m) : (q * m + r) / m = q ∧ (q * m + r) % m = r := by
  have hm : m ≠ 0 := by omega
  constructor
  · rw [Int.add_comm, Int.add_mul_ediv_right _ _ hm, Int.ediv_eq_zero_of_lt h0 h1]; omega
  · rw [Int.add_comm, Int.add_mul_emod_self_right]; exact Int.emod_eq_of_lt h0 h1

theorem place_small {W n i : Int} (h : placeE W n i = 0) (hn : n ≤ W - 8) : placeL W n i = -1 ∧ placeO W n i = 8 + i := by
  unfold placeL placeO; rw [if_pos h, if_pos hn, if_pos h, if_pos hn]; exact ⟨rfl, rfl⟩
theorem place_big {W n i : Int} (h : placeE W n i = 0) (hn : W - 8 < n) : placeL W n i = i / (W - 1) ∧ placeO W n i = 1 + i % (W - 1) := by
  unfold placeL placeO; rw [if_pos h, if_neg (by omega), if_pos h, if_neg (by omega)]; exact ⟨rfl, rfl⟩
theorem place_wrong {W n i : Int} (h : placeE W n i ≠ 0) : placeL W n i = 0 ∧ placeO W n i = 0 := by
  unfold placeL placeO; rw [if_neg h, if_neg h]; exact ⟨rfl, rfl⟩

/-- What lies at a field's place is that field. -/
theorem back_place {W n i : Int} (h : placeE W n i = 0) : backE W n (placeL W n i) (placeO W n i) = 0 ∧ backV W n (placeL W n i) (placeO W n i) = i := by
  obtain ⟨hw, h0, h1⟩ := placeE_ok h
  obtain ⟨w0, w1, n0, n1⟩ := wrongE_ok hw
  by_cases hn : n ≤ W - 8
  · obtain ⟨e1, e2⟩ := place_small h hn
    rw [e1, e2]
    have hs : startI (-1) = 8 := rfl
    have hb : backE W n (-1) (8 + i) = 0 := backE_mk hw (by rw [hs]; omega) (by rw [hs, within_head hn]; omega)
    refine ⟨hb, ?_⟩
    unfold backV; rw [if_pos hb, if_pos hn]; omega
  · obtain ⟨e1, e2⟩ := place_big h (by omega)
    rw [e1, e2]
    obtain ⟨p1, p2, p3, p4⟩ := part_of (m := W - 1) (i := i) (by omega) h0
    have L := leaves_big w0 w1 (by omega) n1
    generalize i / (W - 1) = q at *
    generalize i % (W - 1) = r at *
    have hq : q < leavesI W n := by
      by_cases hq : q < leavesI W n
      · exact hq
      · have := leaf_le (m := W - 1) (a := leavesI W n) (b := q) (by omega) (by omega)
        omega
    have hs : startI q = 1 := by unfold startI; rw [if_neg (by omega)]
    have hb : backE W n q (1 + r) = 0 := backE_mk hw (by rw [hs]; omega) (by rw [hs, within_leaf (by omega) p4 hq]; omega)
    refine ⟨hb, ?_⟩
    unfold backV; rw [if_pos hb, if_neg (by omega)]; omega
/-- Where a field that lies at a place lies, is that place. -/
theorem place_back {W n l a : Int} (h : backE W n l a = 0) : placeE W n (backV W n l a) = 0 ∧ placeL W n (backV W n l a) = l ∧ placeO W n (backV W n l a) = a := by
  obtain ⟨hw, h0, h1⟩ := backE_ok h
  obtain ⟨w0, w1, n0, n1⟩ := wrongE_ok hw
  by_cases hn : n ≤ W - 8
  · have hl : l = -1 := by
      by_cases hl : l = -1
      · exact hl
      · rw [within_none hn hl] at h1; omega
    subst hl
    rw [within_head hn] at h1
    have hs : startI (-1) = 8 := rfl
    rw [hs] at h0 h1
    have e : backV W n (-1) a = a - 8 := by unfold backV; rw [if_pos h, if_pos hn]
    rw [e]
    have hp : placeE W n (a - 8) = 0 := placeE_mk hw (by omega) (by omega)
    obtain ⟨e1, e2⟩ := place_small hp hn
    exact ⟨hp, e1, by omega⟩
  · have L := leaves_big w0 w1 (by omega) n1
    have hl0 : 0 ≤ l := by
      by_cases hl : 0 ≤ l
      · exact hl
      · rw [within_neg (by omega) (by omega)] at h1; omega
    have hl1 : l < leavesI W n := by
      by_cases hl : l < leavesI W n
      · exact hl
      · rw [within_past (by omega) (by omega)] at h1; omega
    have hs : startI l = 1 := by unfold startI; rw [if_neg (by omega)]
    rw [hs, within_leaf (by omega) hl0 hl1] at h1
    rw [hs] at h0
    have e : backV W n l a = l * (W - 1) + (a - 1) := by unfold backV; rw [if_pos h, if_neg (by omega)]; omega
    rw [e]
    have hm := Int.mul_nonneg hl0 (show 0 ≤ W - 1 by omega)
    have hp : placeE W n (l * (W - 1) + (a - 1)) = 0 := placeE_mk hw (by omega) (by omega)
    obtain ⟨e1, e2⟩ := place_big hp (by omega)
    obtain ⟨q1, q2⟩ := part_is (m := W - 1) (q := l) (r := a - 1) (by omega) (by omega)
    exact ⟨hp, by rw [e1, q1], by rw [e2, q2]; omega⟩
theorem backE_cases (W n l a : Int) (hw : wrongE W n = 0) : backE W n l a = 0 ∨ backE W n l a = 7 := by
  unfold backE; rw [if_pos hw]; split
  · exact Or.inr rfl
  · exact Or.inl rfl
theorem backV_no {W n l a : Int} (h : backE W n l a ≠ 0) : backV W n l a = 0 := by unfold backV; rw [if_neg h]
/-- A place at which no field lies. -/
theorem back_none {W n l a : Int} (hw : wrongE W n = 0) (h : ∀ i : Int, 0 ≤ i → i < n → ¬ (placeL W n i = l ∧ placeO W n i = a)) : backE W n l a = 7 := by
  rcases backE_cases W n l a hw with h1 | h1
  · obtain ⟨h2, h3, h4⟩ := place_back h1
    obtain ⟨_, h5, h6⟩ := placeE_ok h2
    exact absurd ⟨h3, h4⟩ (h _ h5 h6)
  · exact h1
theorem back_some {W n l a i : Int} (hp : placeE W n i = 0) (h : placeL W n i = l ∧ placeO W n i = a) : backE W n l a = 0 ∧ backV W n l a = i := by
  obtain ⟨rfl, rfl⟩ := h
  exact back_place hp

/-! ### Going through all fields -/
/-- How many of the first k fields lie in a leaf. -/
def fullTo (W n l k : Int) : Int := if n ≤ W - 8 then (if l = -1 then k else 0) else if l < 0 then 0 else max 0 (min (k - l * (W - 1)) (W - 1))
theorem fullTo_zero {W n l : Int} (hw : wrongE W n = 0) : fullTo W n l 0 = 0 := by
  obtain ⟨w0, w1, n0, n1⟩ := wrongE_ok hw
  unfold fullTo
  split
  · split <;> rfl
  · split
    · rfl
    · have hm := Int.mul_nonneg (show 0 ≤ l by omega) (show 0 ≤ W - 1 by omega)
      omega
theorem fullTo_bd {W n l k : Int} (hw : wrongE W n = 0) (hk : 0 ≤ k) : 0 ≤ fullTo W n l k ∧ fullTo W n l k ≤ max k 255 := by
  obtain ⟨w0, w1, n0, n1⟩ := wrongE_ok hw
  unfold fullTo
  split
  · split <;> omega
  · split <;> omega
theorem fullTo_yes {W n l k : Int} (h : placeE W n k = 0) (hl : placeL W n k = l) : fullTo W n l (k + 1) = fullTo W n l k + 1 := by
  obtain ⟨hw, h0, h1⟩ := placeE_ok h
  obtain ⟨w0, w1, n0, n1⟩ := wrongE_ok hw
  by_cases hn : n ≤ W - 8
  · obtain ⟨e1, e2⟩ := place_small h hn
    rw [e1] at hl; subst hl
    unfold fullTo; rw [if_pos hn, if_pos rfl, if_pos hn, if_pos rfl]
  · obtain ⟨e1, e2⟩ := place_big h (by omega)
    rw [e1] at hl; subst hl
    obtain ⟨p1, p2, p3, p4⟩ := part_of (m := W - 1) (i := k) (by omega) h0
    unfold fullTo; rw [if_neg hn, if_neg (by omega), if_neg hn, if_neg (by omega)]
    omega
theorem fullTo_no {W n l k : Int} (h : placeE W n k = 0) (hl : placeL W n k ≠ l) : fullTo W n l (k + 1) = fullTo W n l k := by
  obtain ⟨hw, h0, h1⟩ := placeE_ok h
  obtain ⟨w0, w1, n0, n1⟩ := wrongE_ok hw
  by_cases hn : n ≤ W - 8
  · obtain ⟨e1, e2⟩ := place_small h hn
    rw [e1] at hl
    unfold fullTo; rw [if_pos hn, if_neg (fun e => hl e.symm), if_pos hn, if_neg (fun e => hl e.symm)]
  · obtain ⟨e1, e2⟩ := place_big h (by omega)
    rw [e1] at hl
    obtain ⟨p1, p2, p3, p4⟩ := part_of (m := W - 1) (i := k) (by omega) h0
    unfold fullTo; rw [if_neg hn, if_neg hn]
    split
    · rfl
    · generalize k / (W - 1) = q at *
      by_cases hq : q < l
      · have := leaf_lt (m := W - 1) (a := q) (b := l) (by omega) hq
        omega
      · have := leaf_lt (m := W - 1) (a := l) (b := q) (by omega) (by omega)
        omega
theorem fullTo_all {W n l : Int} (hw : wrongE W n = 0) : fullTo W n l n = fullV W n l := by
  obtain ⟨w0, w1, n0, n1⟩ := wrongE_ok hw
  unfold fullV; rw [if_pos hw]
  by_cases hn : n ≤ W - 8
  · unfold fullTo; rw [if_pos hn]
    by_cases hl : l = -1
    · subst hl; rw [if_pos rfl, within_head hn]
    · rw [if_neg hl, within_none hn hl]
  · have L := leaves_big w0 w1 (by omega) n1
    unfold fullTo; rw [if_neg hn]
    by_cases hl : l < 0
    · rw [if_pos hl, within_neg (by omega) hl]
    · rw [if_neg hl]
      by_cases hl1 : l < leavesI W n
      · rw [within_leaf (by omega) (by omega) hl1]
        have := leaf_lt (m := W - 1) (a := l) (b := leavesI W n) (by omega) hl1
        omega
      · rw [within_past (by omega) (by omega)]
        have := leaf_le (m := W - 1) (a := leavesI W n) (b := l) (by omega) (by omega)
        omega

/-- With so many leaves an object has more than so many fields .. -/
def loI (W b : Int) : Int := if b = 0 then -1 else if b = 1 then W - 8 else (b - 1) * (W - 1)
/-- .. and so many at most. -/
def hiI (W b : Int) : Int := if b = 0 then W - 8 else b * (W - 1)
theorem leaves_is {W b f : Int} (h0 : 16 ≤ W) (h1 : W ≤ 256) (hf : 0 ≤ f) (hf1 : f ≤ fieldsI W) (hb : 0 ≤ b) : leavesI W f = b ↔ loI W b < f ∧ f ≤ hiI W b := by
  unfold loI hiI
  by_cases hn : f ≤ W - 8
  · rw [leaves_small hn]
    constructor
    · intro e; subst e; rw [if_pos rfl, if_pos rfl]; omega
    · intro e
      by_cases hb0 : b = 0
      · exact hb0.symm
      · rw [if_neg hb0] at e
        by_cases hb1 : b = 1
        · rw [if_pos hb1] at e; omega
        · rw [if_neg hb1] at e
          have := leaf_le (m := W - 1) (a := 1) (b := b - 1) (by omega) (by omega)
          omega
  · have L := leaves_big h0 h1 (by omega) hf1
    generalize leavesI W f = q at *
    constructor
    · intro e; subst e
      have hq0 : ¬ q = 0 := by omega
      rw [if_neg hq0, if_neg hq0]
      by_cases hb1 : q = 1
      · rw [if_pos hb1]; omega
      · rw [if_neg hb1, Int.sub_mul]; omega
    · intro e
      by_cases hb0 : b = 0
      · rw [if_pos hb0, if_pos hb0] at e; omega
      · rw [if_neg hb0, if_neg hb0] at e
        have e1 : (b - 1) * (W - 1) < f := by
          by_cases hb1 : b = 1
          · subst hb1; rw [show ((1 : Int) - 1) * (W - 1) = 0 by rw [show (1 : Int) - 1 = 0 from rfl, Int.zero_mul]]; omega
          · rw [if_neg hb1] at e; exact e.1
        by_cases hq : q < b
        · have := leaf_le (m := W - 1) (a := q) (b := b - 1) (by omega) (by omega)
          omega
        · by_cases hq2 : b < q
          · have := leaf_lt (m := W - 1) (a := b) (b := q) (by omega) hq2
            omega
          · omega
theorem lohi {W b : Int} (h0 : 16 ≤ W) (h1 : W ≤ 256) (hb : 0 ≤ b) (hb1 : b ≤ W - 8) : -1 ≤ loI W b ∧ loI W b < hiI W b ∧ hiI W b ≤ fieldsI W := by
  have hf := fields_bd h0 h1
  have e : (W - 8) * (W - 1) = fieldsI W := rfl
  have hm := leaf_le (m := W - 1) (a := b) (b := W - 8) (by omega) hb1
  unfold loI hiI
  by_cases b0 : b = 0
  · subst b0
    rw [if_pos rfl, if_pos rfl]
    have := leaf_le (m := W - 1) (a := 1) (b := W - 8) (by omega) (by omega)
    omega
  · rw [if_neg b0, if_neg b0]
    by_cases b1 : b = 1
    · subst b1; rw [if_pos rfl]; omega
    · rw [if_neg b1]
      have h2 := leaf_lt (m := W - 1) (a := b - 1) (b := b) (by omega) (by omega)
      have h3 := Int.mul_nonneg (show 0 ≤ b - 1 by omega) (show 0 ≤ W - 1 by omega)
      omega
/-- The greatest number below k of fields of an object of so many leaves; 0, if there is none. -/
def mostTo (W b k : Int) : Int := if k ≤ loI W b + 1 then 0 else min (k - 1) (hiI W b)
theorem mostTo_zero {W b : Int} (h0 : 16 ≤ W) (h1 : W ≤ 256) (hb : 0 ≤ b) (hb1 : b ≤ W - 8) : mostTo W b 0 = 0 := by
  have := lohi h0 h1 hb hb1
  unfold mostTo; rw [if_pos (by omega)]
theorem mostTo_yes {W b k : Int} (h0 : 16 ≤ W) (h1 : W ≤ 256) (hb : 0 ≤ b) (hb1 : b ≤ W - 8) (hk : 0 ≤ k) (hk1 : k ≤ fieldsI W) (h : leavesI W k = b) : mostTo W b (k + 1) = k := by
  have h := (leaves_is h0 h1 hk hk1 hb).1 h
  unfold mostTo; rw [if_neg (by omega)]; omega
theorem mostTo_no {W b k : Int} (h0 : 16 ≤ W) (h1 : W ≤ 256) (hb : 0 ≤ b) (hb1 : b ≤ W - 8) (hk : 0 ≤ k) (hk1 : k ≤ fieldsI W) (h : leavesI W k ≠ b) : mostTo W b (k + 1) = mostTo W b k := by
  have h2 : ¬ (loI W b < k ∧ k ≤ hiI W b) := fun x => h ((leaves_is h0 h1 hk hk1 hb).2 x)
  have := lohi h0 h1 hb hb1
  unfold mostTo
  by_cases h3 : k ≤ loI W b
  · rw [if_pos (by omega), if_pos (by omega)]
  · rw [if_neg (by omega), if_neg (by omega)]; omega
theorem mostTo_all {W b : Int} (h0 : 16 ≤ W) (h1 : W ≤ 256) (hb : 1 ≤ b) (hb1 : b ≤ W - 7) : mostTo W (b - 1) (fieldsI W + 1) = largestV W b := by
  have h := lohi (b := b - 1) h0 h1 (by omega) (by omega)
  unfold mostTo largestV
  rw [if_neg (by omega), if_pos (widB_mk h0 h1), if_neg (by omega)]
  have e : hiI W (b - 1) = if b = 1 then W - 8 else (b - 1) * (W - 1) := by
    unfold hiI
    by_cases h1 : b = 1
    · rw [if_pos (by omega), if_pos h1]
    · rw [if_neg (by omega), if_neg h1]
  rw [← e]
  omega
theorem mostTo_bd {W b k : Int} (h0 : 16 ≤ W) (h1 : W ≤ 256) (hb : 0 ≤ b) (hb1 : b ≤ W - 8) (hk : 0 ≤ k) : 0 ≤ mostTo W b k ∧ mostTo W b k ≤ 63240 := by
  have h := lohi h0 h1 hb hb1
  have hf := fields_bd h0 h1
  unfold mostTo
  split <;> omega

/-! ### All leaves together -/
/-- The fields in the first k leaves. -/
def leafSum (W n k : Int) : Int := min n (k * (W - 1))
theorem leafSum_succ {W n k : Int} (hw : wrongE W n = 0) (hn : W - 8 < n) (h0 : 0 ≤ k) (h1 : k < leavesI W n) : leafSum W n (k + 1) = leafSum W n k + withinI W n k := by
  obtain ⟨w0, w1, n0, n1⟩ := wrongE_ok hw
  have L := leaves_big w0 w1 hn n1
  have c := leaf_lt (m := W - 1) (a := k) (b := leavesI W n) (by omega) h1
  rw [within_leaf hn h0 h1]
  unfold leafSum
  rw [Int.add_mul]
  omega
theorem leafSum_all {W n : Int} (hw : wrongE W n = 0) (hn : W - 8 < n) : leafSum W n (leavesI W n) = n := by
  obtain ⟨w0, w1, n0, n1⟩ := wrongE_ok hw
  have L := leaves_big w0 w1 hn n1
  unfold leafSum; omega
/-- Each leaf has a field, each but the last one is full. -/
theorem within_some {W n k : Int} (hw : wrongE W n = 0) (hn : W - 8 < n) (h0 : 0 ≤ k) (h1 : k < leavesI W n) : 1 ≤ withinI W n k ∧ withinI W n k ≤ W - 1 ∧ (k < leavesI W n - 1 → withinI W n k = W - 1) := by
  obtain ⟨w0, w1, n0, n1⟩ := wrongE_ok hw
  have L := leaves_big w0 w1 hn n1
  have c := leaf_lt (m := W - 1) (a := k) (b := leavesI W n) (by omega) h1
  rw [within_leaf hn h0 h1]
  refine ⟨by omega, by omega, fun h => ?_⟩
  have d := leaf_lt (m := W - 1) (a := k) (b := leavesI W n - 1) (by omega) h
  rw [Int.sub_mul] at d
  omega
/-- One field more. -/
theorem more_fields {W n : Int} (h0 : 16 ≤ W) (h1 : W ≤ 256) (hn : 0 ≤ n) (hn1 : n + 1 ≤ fieldsI W) :
    leavesI W n ≤ leavesI W (n + 1) ∧ n ≤ largestV W (1 + leavesI W n) ∧ (leavesI W n < leavesI W (n + 1) ↔ largestV W (1 + leavesI W n) = n) := by
  have a := leaves_bd (n := n) h0 h1 (by omega)
  have a' := leaves_bd (n := n + 1) h0 h1 hn1
  have hl := (leaves_is (b := leavesI W n) h0 h1 hn (by omega) a.1).1 rfl
  have hl2 := leaves_is (b := leavesI W n) h0 h1 (f := n + 1) (by omega) hn1 a.1
  have e : largestV W (1 + leavesI W n) = hiI W (leavesI W n) := by
    unfold largestV hiI
    rw [if_pos (widB_mk h0 h1), if_neg (by omega)]
    by_cases h : leavesI W n = 0
    · rw [if_pos (by omega), if_pos h]
    · rw [if_neg (by omega), if_neg h, show 1 + leavesI W n - 1 = leavesI W n by omega]
  have hm : leavesI W n ≤ leavesI W (n + 1) := by
    by_cases h2 : n ≤ W - 8
    · rw [leaves_small h2]; omega
    · have L := leaves_big h0 h1 (by omega : W - 8 < n) (by omega)
      have M := leaves_big h0 h1 (by omega : W - 8 < n + 1) hn1
      by_cases h3 : leavesI W n ≤ leavesI W (n + 1)
      · exact h3
      · have := leaf_lt (m := W - 1) (a := leavesI W (n + 1)) (b := leavesI W n) (by omega) (by omega)
        omega
  rw [e]
  refine ⟨hm, hl.2, ?_⟩
  constructor
  · intro h
    by_cases h2 : hiI W (leavesI W n) = n
    · exact h2
    · have := hl2.2 ⟨by omega, by omega⟩
      omega
  · intro h
    by_cases h2 : leavesI W (n + 1) = leavesI W n
    · have := hl2.1 h2; omega
    · omega
theorem most_fields {W : Int} (h0 : 16 ≤ W) (h1 : W ≤ 256) : leavesI W (fieldsI W) = W - 8 ∧ largestV W (W - 7) = fieldsI W := by
  have hf := fields_bd h0 h1
  have e : (W - 8) * (W - 1) = fieldsI W := rfl
  have hb : W - 8 < fieldsI W := by
    have := leaf_le (m := W - 1) (a := 2) (b := W - 8) (by omega) (by omega)
    omega
  have L := leaves_big h0 h1 hb (Int.le_refl _)
  refine ⟨?_, ?_⟩
  · by_cases h : leavesI W (fieldsI W) = W - 8
    · exact h
    · have := leaf_lt (m := W - 1) (a := leavesI W (fieldsI W)) (b := W - 8) (by omega) (by omega)
      omega
  · unfold largestV
    rw [if_pos (widB_mk h0 h1), if_neg (by omega), if_neg (by omega), show W - 7 - 1 = W - 8 by omega]
    exact e

end Go.Proofs.YtljdbaddockfcaaGreat.Pk
