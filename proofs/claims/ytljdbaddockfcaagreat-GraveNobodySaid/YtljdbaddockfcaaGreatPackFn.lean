/-
  PkMath: Plain facts on pieces of 32-bit words, sums of widths, and numbers of ones: no program in sight.
  Pack: What the functions of package pack that take no slices return, whatever they are given.
  RefPack: What the document's functions on pieces of words return, whatever they are given: the same as the program's.
  PackTab: What the functions of package pack that take slices return, and the document's.
  PackJoin: What Join returns: the program's, and the document's.
  PackSplit: What Split returns: the program's, and the document's; and the document's Same.
  PackAny: One contract for each function on pieces, whatever it is given: the program's and the document's end alike.
-/
import Derived.Test.YtljdbaddockfcaaGreatBase
import Derived.Test.YtljdbaddockfcaaGreatProg
import Derived.WalkKit
import Derived.WalkSpells
import Derived.WalkLawsBesides
import Derived.Deep.QuietTactic
import Derived.BigQuiet

namespace Go.Proofs.YtljdbaddockfcaaGreat.Pk
open Go.RowKit
set_option linter.unusedVariables false
set_option linter.unusedSimpArgs false

/-- 2 to the n. -/
def pw (n : Int) : Int := 2 ^ n.toNat
theorem pw_def (n : Int) : pw n = 2 ^ n.toNat := rfl
theorem pw_pos (n : Int) : 0 < pw n := Int.pow_pos (by decide)
/-- Is there such a piece? -/
def pieceB (at' n : Int) : Bool := decide (0 ≤ at' ∧ 1 ≤ n ∧ n ≤ 32 ∧ at' ≤ 32 - n)
theorem pieceB_yes {a n : Int} (h : pieceB a n = true) : 0 ≤ a ∧ 1 ≤ n ∧ n ≤ 32 ∧ a ≤ 32 - n := of_decide_eq_true h
theorem pieceB_no {a n : Int} (h : pieceB a n = false) : ¬ (0 ≤ a ∧ 1 ≤ n ∧ n ≤ 32 ∧ a ≤ 32 - n) := of_decide_eq_false h
theorem pieceB_mk {a n : Int} (h : 0 ≤ a ∧ 1 ≤ n ∧ n ≤ 32 ∧ a ≤ 32 - n) : pieceB a n = true := decide_eq_true h
theorem pieceB_mk' {a n : Int} (h : ¬ (0 ≤ a ∧ 1 ≤ n ∧ n ≤ 32 ∧ a ≤ 32 - n)) : pieceB a n = false := decide_eq_false h
/-- A piece's number. -/
def getI (w a n : Int) : Int := if pieceB a n = true then w / pw a % pw n else 0
/-- Does v fit n bits? -/
def fitB (v n : Int) : Bool := decide (v < pw n)
/-- A word with another piece. -/
def putI (w a n v : Int) : Int := w - getI w a n * pw a + v * pw a

theorem pw_le {m n : Int} (h : m ≤ n) : pw m ≤ pw n := by
  unfold pw
  have h1 : m.toNat ≤ n.toNat := by omega
  have := Nat.pow_le_pow_right (n := 2) (by decide) h1
  exact_mod_cast this
theorem pw_add {m n : Int} (hm : 0 ≤ m) (hn : 0 ≤ n) : pw (m + n) = pw m * pw n := by
  unfold pw
  rw [Int.toNat_add hm hn, Int.pow_add]
theorem pw_32 : pw 32 = 4294967296 := by decide
theorem pw_0 : pw 0 = 1 := by decide
theorem pw_succ {n : Int} (hn : 0 ≤ n) : pw (n + 1) = 2 * pw n := by
  rw [pw_add hn (by decide), Int.mul_comm]; rfl
theorem pw_neg {n : Int} (h : n ≤ 0) : pw n = 1 := by
  unfold pw
  have : n.toNat = 0 := by omega
  rw [this]; rfl
theorem pw_le32 {n : Int} (h : n ≤ 32) : pw n ≤ 4294967296 := by rw [← pw_32]; exact pw_le h
theorem pw_ge32 {n : Int} (h : 32 ≤ n) : 4294967296 ≤ pw n := by rw [← pw_32]; exact pw_le h
theorem pw_cut {a n : Int} (ha : 0 ≤ a) (hn : 0 ≤ n) (h : a ≤ 32 - n) : pw a * pw n ≤ 4294967296 := by
  rw [← pw_add ha hn]; exact pw_le32 (by omega)

theorem lo_mask {n : Int} (h1 : 1 ≤ n) (h2 : n ≤ 32) : (4294967295 : Int) / 2 ^ (32 - n).toNat = pw n - 1 := by
  have e : pw n * pw (32 - n) = 4294967296 := by
    rw [← pw_add (by omega) (by omega), show n + (32 - n) = 32 by omega, pw_32]
  have hp := pw_pos (32 - n)
  have hq := pw_pos n
  show (4294967295 : Int) / pw (32 - n) = pw n - 1
  have e2 : (4294967295 : Int) = (pw (32 - n) - 1) + (pw n - 1) * pw (32 - n) := by
    rw [Int.sub_mul, e]; omega
  rw [e2, Int.add_mul_ediv_right _ _ (by omega), Int.ediv_eq_zero_of_lt (by omega) (by omega)]
  omega

theorem getI_lo {w a n : Int} (h0 : 0 ≤ w) : 0 ≤ getI w a n := by
  unfold getI; split
  · exact Int.emod_nonneg _ (by have := pw_pos n; omega)
  · exact Int.le_refl _
theorem getI_lt {w a n : Int} : getI w a n < pw n := by
  unfold getI; split
  · exact Int.emod_lt_of_pos _ (pw_pos n)
  · exact pw_pos n
theorem getI_hi {w a n : Int} (h0 : 0 ≤ w) (h1 : w ≤ 4294967295) : getI w a n ≤ 4294967295 := by
  by_cases hp : pieceB a n = true
  · have h := pieceB_yes hp
    have := getI_lt (w := w) (a := a) (n := n)
    have := pw_le32 h.2.2.1
    omega
  · have : getI w a n = 0 := by unfold getI; rw [if_neg hp]
    omega

theorem get_and {w a n : Int} (h0 : 0 ≤ w) (h1 : w ≤ 4294967295) (hp : pieceB a n = true) :
    bits .and .u32 (w / 2 ^ a.toNat) (pw n - 1) = getI w a n := by
  obtain ⟨ha, hn1, hn2, hd⟩ := pieceB_yes hp
  have hle : w / pw a ≤ w := Int.ediv_le_self _ h0
  have hge : 0 ≤ w / pw a := Int.ediv_nonneg h0 (Int.le_of_lt (pw_pos a))
  have hm := pw_le32 hn2
  have hp0 := pw_pos n
  show bits .and .u32 (w / pw a) (pw n - 1) = _
  rw [u32_and _ _ hge (by omega) (by omega) (by omega)]
  unfold getI
  rw [if_pos hp]
  obtain ⟨X, hX⟩ := Int.eq_ofNat_of_zero_le hge
  rw [hX]
  have e : (pw n - 1).toNat = 2 ^ n.toNat - 1 := by
    unfold pw
    have : ((2 : Int) ^ n.toNat) = ((2 ^ n.toNat : Nat) : Int) := by simp
    rw [this]; omega
  rw [e, Int.toNat_natCast, Nat.and_two_pow_sub_one_eq_mod]
  unfold pw
  simp

theorem split_word (w a n : Nat) : w = (w / 2 ^ (a + n)) * 2 ^ (a + n) + (w / 2 ^ a % 2 ^ n) * 2 ^ a + w % 2 ^ a := by
  have h1 := Nat.div_add_mod w (2 ^ a)
  have h2 := Nat.div_add_mod (w / 2 ^ a) (2 ^ n)
  rw [Nat.div_div_eq_div_mul, ← Nat.pow_add] at h2
  have h3 : 2 ^ a * (2 ^ n * (w / 2 ^ (a + n))) = w / 2 ^ (a + n) * 2 ^ (a + n) := by
    rw [Nat.pow_add, ← Nat.mul_assoc, Nat.mul_comm]
  have h4 : 2 ^ a * (w / 2 ^ a) = 2 ^ a * (2 ^ n * (w / 2 ^ (a + n))) + 2 ^ a * (w / 2 ^ a % 2 ^ n) := by
    rw [← Nat.mul_add, h2]
  have h5 : 2 ^ a * (w / 2 ^ a % 2 ^ n) = w / 2 ^ a % 2 ^ n * 2 ^ a := Nat.mul_comm _ _
  omega

/-- The bits of a word with another piece, in the program's way. -/
theorem put_nat (w a n v : Nat) (hv : v < 2 ^ n) (hw : w < 2 ^ 32) (hn : a + n ≤ 32) :
    (w &&& (4294967295 - (2 ^ n - 1) * 2 ^ a)) ||| v * 2 ^ a = (w / 2 ^ (a + n)) * 2 ^ (a + n) + v * 2 ^ a + w % 2 ^ a := by
  have hmul : (2 ^ n - 1) * 2 ^ a < 2 ^ 32 := by
    have h1 : (2 ^ n - 1) * 2 ^ a < 2 ^ n * 2 ^ a := Nat.mul_lt_mul_of_pos_right (by have := Nat.two_pow_pos n; omega) (Nat.two_pow_pos a)
    rw [← Nat.pow_add] at h1
    exact Nat.lt_of_lt_of_le h1 (Nat.pow_le_pow_right (by decide) (by omega))
  have hlow : v * 2 ^ a + w % 2 ^ a < 2 ^ (a + n) := by
    have h1 : (v + 1) * 2 ^ a ≤ 2 ^ n * 2 ^ a := Nat.mul_le_mul_right _ hv
    rw [Nat.add_mul, Nat.one_mul] at h1
    have h2 := Nat.mod_lt w (Nat.two_pow_pos a)
    rw [Nat.pow_add, Nat.mul_comm (2 ^ a)]
    omega
  apply Nat.eq_of_testBit_eq
  intro j
  have e1 : (4294967295 - (2 ^ n - 1) * 2 ^ a) = 2 ^ 32 - ((2 ^ n - 1) * 2 ^ a + 1) := by omega
  rw [Nat.testBit_or, Nat.testBit_and, e1, Nat.testBit_two_pow_sub_succ hmul]
  rw [Nat.add_assoc, Nat.mul_comm (w / 2 ^ (a + n)), Nat.testBit_two_pow_mul_add _ hlow, Nat.mul_comm v, Nat.testBit_two_pow_mul_add _ (Nat.mod_lt w (Nat.two_pow_pos a))]
  rw [Nat.mul_comm (2 ^ n - 1), Nat.testBit_two_pow_mul, Nat.testBit_two_pow_mul, Nat.testBit_two_pow_sub_one, Nat.testBit_mod_two_pow, Nat.testBit_div_two_pow]
  by_cases hj : j < a
  · have h1 : ¬ a ≤ j := by omega
    have h2 : j < a + n := by omega
    have h3 : j < 32 := by omega
    simp [hj, h1, h2, h3]
  · by_cases hj2 : j < a + n
    · have h1 : a ≤ j := by omega
      have h2 : j - a < n := by omega
      simp [hj, hj2, h1, h2]
    · have h1 : a ≤ j := by omega
      have h2 : ¬ j - a < n := by omega
      have h3 : v.testBit (j - a) = false := by
        apply Nat.testBit_lt_two_pow
        exact Nat.lt_of_lt_of_le hv (Nat.pow_le_pow_right (by decide) (by omega))
      have h4 : a + n + (j - (a + n)) = j := by omega
      have h6 : j - (a + n) + (a + n) = j := by omega
      by_cases h5 : j < 32
      · simp [hj, hj2, h1, h2, h3, h4, h5, h6]
      · have hwj : w.testBit j = false := by
          apply Nat.testBit_lt_two_pow
          exact Nat.lt_of_lt_of_le hw (Nat.pow_le_pow_right (by decide) (by omega))
        simp [hj, hj2, h1, h2, h3, h4, h5, h6, hwj]

theorem put_or {w a n v : Int} (h0 : 0 ≤ w) (h1 : w ≤ 4294967295) (hv0 : 0 ≤ v) (hp : pieceB a n = true) (hf : fitB v n = true) :
    bits .or .u32 (bits .andNot .u32 w (IntKind.u32.wrap ((pw n - 1) * 2 ^ a.toNat))) (IntKind.u32.wrap (v * 2 ^ a.toNat)) = putI w a n v := by
  obtain ⟨ha, hn1, hn2, hd⟩ := pieceB_yes hp
  have hv : v < pw n := of_decide_eq_true hf
  obtain ⟨A, rfl⟩ := Int.eq_ofNat_of_zero_le ha
  obtain ⟨N, rfl⟩ := Int.eq_ofNat_of_zero_le (by omega : 0 ≤ n)
  obtain ⟨W, rfl⟩ := Int.eq_ofNat_of_zero_le h0
  obtain ⟨V, rfl⟩ := Int.eq_ofNat_of_zero_le hv0
  have eN : pw (N : Int) = ((2 ^ N : Nat) : Int) := by unfold pw; simp
  have eA : pw (A : Int) = ((2 ^ A : Nat) : Int) := by unfold pw; simp
  have eA2 : (2 : Int) ^ (A : Int).toNat = ((2 ^ A : Nat) : Int) := by simp
  have hV : V < 2 ^ N := by rw [eN] at hv; exact_mod_cast hv
  have hs : A + N ≤ 32 := by omega
  have hW : W < 2 ^ 32 := by omega
  have hpos := Nat.two_pow_pos N
  have eM : (pw (N : Int) - 1) * 2 ^ (A : Int).toNat = (((2 ^ N - 1) * 2 ^ A : Nat) : Int) := by
    rw [eN, eA2, Int.natCast_mul, Int.natCast_sub hpos]; simp
  have eV : (V : Int) * 2 ^ (A : Int).toNat = ((V * 2 ^ A : Nat) : Int) := by rw [eA2, Int.natCast_mul]
  have bM : (2 ^ N - 1) * 2 ^ A < 2 ^ 32 := by
    have h1 : (2 ^ N - 1) * 2 ^ A < 2 ^ N * 2 ^ A := Nat.mul_lt_mul_of_pos_right (by omega) (Nat.two_pow_pos A)
    rw [← Nat.pow_add] at h1
    exact Nat.lt_of_lt_of_le h1 (Nat.pow_le_pow_right (by decide) (by omega))
  have bV : V * 2 ^ A < 2 ^ 32 := by
    have h1 : V * 2 ^ A < 2 ^ N * 2 ^ A := Nat.mul_lt_mul_of_pos_right hV (Nat.two_pow_pos A)
    rw [← Nat.pow_add] at h1
    exact Nat.lt_of_lt_of_le h1 (Nat.pow_le_pow_right (by decide) (by omega))
  rw [eM, eV, IntKind.wrap_u32, IntKind.wrap_u32]
  rw [show ((((2 ^ N - 1) * 2 ^ A : Nat) : Int)) % 4294967296 = (((2 ^ N - 1) * 2 ^ A : Nat) : Int) from by omega]
  rw [show ((V * 2 ^ A : Nat) : Int) % 4294967296 = ((V * 2 ^ A : Nat) : Int) from by omega]
  rw [u32_andNot _ _ (by omega) (by omega) (by omega) (by omega)]
  have hle : W &&& (4294967295 - (2 ^ N - 1) * 2 ^ A) ≤ W := Nat.and_le_left
  rw [Int.toNat_natCast, Int.toNat_natCast, u32_or _ _ (by omega) (by omega) (by omega) (by omega), Int.toNat_natCast, Int.toNat_natCast, put_nat W A N V hV hW hs]
  unfold putI getI
  rw [if_pos hp, eN, eA]
  have hsw := split_word W A N
  have e1 : ((W : Int) / ((2 ^ A : Nat) : Int) % ((2 ^ N : Nat) : Int)) = ((W / 2 ^ A % 2 ^ N : Nat) : Int) := by simp
  rw [e1, ← Int.natCast_mul, ← Int.natCast_mul]
  omega

theorem putI_hi {w a n v : Int} (h0 : 0 ≤ w) (h1 : w ≤ 4294967295) (hv0 : 0 ≤ v) (hp : pieceB a n = true) (hf : fitB v n = true) : putI w a n v ≤ 4294967295 := by
  obtain ⟨ha, hn1, hn2, hd⟩ := pieceB_yes hp
  have hv : v < pw n := of_decide_eq_true hf
  obtain ⟨A, rfl⟩ := Int.eq_ofNat_of_zero_le ha
  obtain ⟨N, rfl⟩ := Int.eq_ofNat_of_zero_le (by omega : 0 ≤ n)
  obtain ⟨W, rfl⟩ := Int.eq_ofNat_of_zero_le h0
  obtain ⟨V, rfl⟩ := Int.eq_ofNat_of_zero_le hv0
  have eN : pw (N : Int) = ((2 ^ N : Nat) : Int) := by unfold pw; simp
  have eA : pw (A : Int) = ((2 ^ A : Nat) : Int) := by unfold pw; simp
  have hV : V < 2 ^ N := by rw [eN] at hv; exact_mod_cast hv
  have hs : A + N ≤ 32 := by omega
  have hW : W < 2 ^ 32 := by omega
  have bV : V * 2 ^ A < 2 ^ 32 := by
    have h1 : V * 2 ^ A < 2 ^ N * 2 ^ A := Nat.mul_lt_mul_of_pos_right hV (Nat.two_pow_pos A)
    rw [← Nat.pow_add] at h1
    exact Nat.lt_of_lt_of_le h1 (Nat.pow_le_pow_right (by decide) (by omega))
  have hle : W &&& (4294967295 - (2 ^ N - 1) * 2 ^ A) ≤ W := Nat.and_le_left
  have hor := Nat.or_lt_two_pow (Nat.lt_of_le_of_lt hle hW) bV
  rw [put_nat W A N V hV hW hs] at hor
  unfold putI getI
  rw [if_pos hp, eN, eA]
  have hsw := split_word W A N
  have e1 : ((W : Int) / ((2 ^ A : Nat) : Int) % ((2 ^ N : Nat) : Int)) = ((W / 2 ^ A % 2 ^ N : Nat) : Int) := by simp
  rw [e1, ← Int.natCast_mul, ← Int.natCast_mul]
  omega
theorem getI_mul {w a n : Int} (h0 : 0 ≤ w) : 0 ≤ getI w a n * pw a ∧ getI w a n * pw a ≤ w := by
  have hA := pw_pos a
  refine ⟨Int.mul_nonneg (getI_lo h0) (by omega), ?_⟩
  unfold getI; split
  · have h2 : w / pw a % pw n ≤ w / pw a := by
      rw [Int.emod_def]
      have := Int.mul_nonneg (Int.le_of_lt (pw_pos n)) (Int.ediv_nonneg (Int.ediv_nonneg h0 (Int.le_of_lt hA)) (Int.le_of_lt (pw_pos n)))
      omega
    have h3 : w / pw a % pw n * pw a ≤ w / pw a * pw a := Int.mul_le_mul_of_nonneg_right h2 (by omega)
    have h4 := Int.ediv_mul_le w (b := pw a) (by omega)
    omega
  · simpa using h0
theorem fit_mul {v a n : Int} (hv0 : 0 ≤ v) (hp : pieceB a n = true) (hf : fitB v n = true) : 0 ≤ v * pw a ∧ v * pw a ≤ 4294967295 := by
  obtain ⟨ha, hn1, hn2, hd⟩ := pieceB_yes hp
  have hv : v < pw n := of_decide_eq_true hf
  have hA := pw_pos a
  have h1 : (v + 1) * pw a ≤ pw n * pw a := Int.mul_le_mul_of_nonneg_right (by omega) (by omega)
  rw [Int.add_mul] at h1
  have h2 := pw_cut ha (by omega : 0 ≤ n) hd
  rw [Int.mul_comm] at h2
  exact ⟨Int.mul_nonneg hv0 (by omega), by omega⟩
theorem putI_lo {w a n v : Int} (h0 : 0 ≤ w) (hv0 : 0 ≤ v) (hp : pieceB a n = true) : 0 ≤ putI w a n v := by
  unfold putI
  have hA := pw_pos a
  have h1 : getI w a n * pw a ≤ w := by
    unfold getI; rw [if_pos hp]
    have h2 : w / pw a % pw n ≤ w / pw a := by
      rw [Int.emod_def]
      have := Int.mul_nonneg (Int.le_of_lt (pw_pos n)) (Int.ediv_nonneg (Int.ediv_nonneg h0 (Int.le_of_lt hA)) (Int.le_of_lt (pw_pos n)))
      omega
    have h3 : w / pw a % pw n * pw a ≤ w / pw a * pw a := Int.mul_le_mul_of_nonneg_right h2 (by omega)
    have h4 := Int.ediv_mul_le w (b := pw a) (by omega)
    omega
  have h5 : 0 ≤ v * pw a := Int.mul_nonneg hv0 (by omega)
  omega

theorem fits_shr {v n : Int} (h0 : 0 ≤ v) (h1 : v ≤ 4294967295) (hn : 0 ≤ n) : (v / 2 ^ min n.toNat 32 == 0) = fitB v n := by
  unfold fitB
  rw [Bool.eq_iff_iff, beq_iff_eq, decide_eq_true_iff]
  by_cases h : n ≤ 32
  · have e : min n.toNat 32 = n.toNat := by omega
    rw [e]
    show v / pw n = 0 ↔ v < pw n
    constructor
    · intro hz
      have h2 := Int.lt_ediv_add_one_mul_self v (pw_pos n)
      rw [hz] at h2
      omega
    · intro hlt; exact Int.ediv_eq_zero_of_lt h0 hlt
  · have e : min n.toNat 32 = 32 := by omega
    rw [e]
    have hz : v / 2 ^ 32 = 0 := Int.ediv_eq_zero_of_lt h0 (by omega)
    have := pw_ge32 (n := n) (by omega)
    constructor
    · intro _; omega
    · intro _; exact hz
theorem fits_neg {v n : Int} (h0 : 0 ≤ v) (hn : n ≤ 0) : (v == 0) = fitB v n := by
  unfold fitB
  rw [pw_neg hn, Bool.eq_iff_iff, beq_iff_eq, decide_eq_true_iff]
  omega

/-! ### Rows of numbers -/
/-- The sum of the k first numbers. -/
def sumTo (zs : List Int) : Nat → Int
  | 0 => 0
  | k + 1 => sumTo zs k + nth zs k
theorem sumTo_zero (zs : List Int) : sumTo zs 0 = 0 := rfl
theorem sumTo_succ (zs : List Int) (k : Nat) : sumTo zs (k + 1) = sumTo zs k + nth zs k := rfl
/-- The k first widths are right. -/
def rightTo (zs : List Int) (k : Nat) : Prop := ∀ j, j < k → 1 ≤ nth zs j ∧ nth zs j ≤ 32 - sumTo zs j
theorem rightTo_zero (zs : List Int) : rightTo zs 0 := fun _ h => absurd h (Nat.not_lt_zero _)
theorem rightTo_succ {zs : List Int} {k : Nat} (h : rightTo zs k) (h1 : 1 ≤ nth zs k) (h2 : nth zs k ≤ 32 - sumTo zs k) : rightTo zs (k + 1) := by
  intro j hj
  by_cases e : j = k
  · subst e; exact ⟨h1, h2⟩
  · exact h j (by omega)
theorem rightTo_mono {zs : List Int} {j k : Nat} (h : rightTo zs k) (hj : j ≤ k) : rightTo zs j := fun i hi => h i (by omega)
theorem rightTo_bd {zs : List Int} {k : Nat} (h : rightTo zs k) : (k : Int) ≤ sumTo zs k ∧ sumTo zs k ≤ 32 := by
  induction k with
  | zero => rw [sumTo_zero]; omega
  | succ k ih =>
    have h1 := ih (rightTo_mono h (by omega))
    have h2 := h k (by omega)
    rw [sumTo_succ]
    omega
theorem sumTo_mono {zs : List Int} {j k : Nat} (h : rightTo zs k) (hj : j ≤ k) : sumTo zs j ≤ sumTo zs k := by
  induction k with
  | zero => rw [show j = 0 by omega]; omega
  | succ k ih =>
    by_cases e : j = k + 1
    · rw [e]; omega
    · have h1 := ih (rightTo_mono h (by omega)) (by omega)
      have h2 := h k (by omega)
      rw [sumTo_succ]
      omega
theorem rightTo_piece {zs : List Int} {k : Nat} (h : rightTo zs (k + 1)) : pieceB (sumTo zs k) (nth zs k) = true := by
  have h1 := rightTo_bd (rightTo_mono h (Nat.le_succ k))
  have h2 := h k (by omega)
  exact pieceB_mk ⟨by omega, by omega, by omega, by omega⟩
theorem rightTo_no {zs : List Int} {k n : Nat} (hk : k < n) (h : ¬ (1 ≤ nth zs k ∧ nth zs k ≤ 32 - sumTo zs k)) : ¬ rightTo zs n := fun hr => h (hr k hk)

/-- Words: each from 0 to 2^32 - 1. -/
def U32s (ls : List Int) : Prop := ∀ j, 0 ≤ nth ls j ∧ nth ls j ≤ 4294967295
/-- The k first numbers fit their widths. -/
def fitsTo (zs ls : List Int) (k : Nat) : Prop := ∀ j, j < k → fitB (nth ls j) (nth zs j) = true
theorem fitsTo_zero (zs ls : List Int) : fitsTo zs ls 0 := fun _ h => absurd h (Nat.not_lt_zero _)
theorem fitsTo_succ {zs ls : List Int} {k : Nat} (h : fitsTo zs ls k) (h1 : fitB (nth ls k) (nth zs k) = true) : fitsTo zs ls (k + 1) := by
  intro j hj
  by_cases e : j = k
  · subst e; exact h1
  · exact h j (by omega)
theorem fitsTo_mono {zs ls : List Int} {j k : Nat} (h : fitsTo zs ls k) (hj : j ≤ k) : fitsTo zs ls j := fun i hi => h i (by omega)
theorem fitsTo_no {zs ls : List Int} {k n : Nat} (hk : k < n) (h : fitB (nth ls k) (nth zs k) = false) : ¬ fitsTo zs ls n := fun hr => by have := hr k hk; rw [h] at this; cases this
/-- The word whose k first pieces are the k first numbers. -/
def joinTo (zs ls : List Int) : Nat → Int
  | 0 => 0
  | k + 1 => joinTo zs ls k + nth ls k * pw (sumTo zs k)
theorem joinTo_succ (zs ls : List Int) (k : Nat) : joinTo zs ls (k + 1) = joinTo zs ls k + nth ls k * pw (sumTo zs k) := rfl
theorem joinTo_bd {zs ls : List Int} {k : Nat} (hr : rightTo zs k) (hu : U32s ls) (hf : fitsTo zs ls k) : 0 ≤ joinTo zs ls k ∧ joinTo zs ls k < pw (sumTo zs k) := by
  induction k with
  | zero => exact ⟨Int.le_refl _, pw_pos _⟩
  | succ k ih =>
    obtain ⟨h1, h2⟩ := ih (rightTo_mono hr (by omega)) (fitsTo_mono hf (by omega))
    obtain ⟨s1, s2⟩ := rightTo_bd (rightTo_mono hr (Nat.le_succ k))
    obtain ⟨r1, r2⟩ := hr k (by omega)
    have hv : nth ls k < pw (nth zs k) := of_decide_eq_true (hf k (by omega))
    have hA := pw_pos (sumTo zs k)
    have h3 : (nth ls k + 1) * pw (sumTo zs k) ≤ pw (nth zs k) * pw (sumTo zs k) := Int.mul_le_mul_of_nonneg_right (by omega) (by omega)
    rw [Int.add_mul] at h3
    have h4 : 0 ≤ nth ls k * pw (sumTo zs k) := Int.mul_nonneg (hu k).1 (by omega)
    rw [joinTo_succ, sumTo_succ, pw_add (by omega) (by omega), Int.mul_comm (pw (sumTo zs k))]
    omega
theorem joinTo_32 {zs ls : List Int} {k : Nat} (hr : rightTo zs k) (hu : U32s ls) (hf : fitsTo zs ls k) : 0 ≤ joinTo zs ls k ∧ joinTo zs ls k ≤ 4294967295 := by
  have h1 := joinTo_bd hr hu hf
  have h2 := pw_le32 (rightTo_bd hr).2
  omega
theorem getI_zero {w a n : Int} (h0 : 0 ≤ w) (h : w < pw a) : getI w a n = 0 := by
  unfold getI; split
  · rw [Int.ediv_eq_zero_of_lt h0 h]; exact Int.zero_emod _
  · rfl
theorem join_put {zs ls : List Int} {k : Nat} (hr : rightTo zs k) (hu : U32s ls) (hf : fitsTo zs ls k) :
    putI (joinTo zs ls k) (sumTo zs k) (nth zs k) (nth ls k) = joinTo zs ls (k + 1) := by
  have h1 := joinTo_bd hr hu hf
  unfold putI
  rw [getI_zero h1.1 h1.2, joinTo_succ]
  omega
/-- The numbers of a word's k first pieces. -/
def splitTo (x : Int) (zs : List Int) (k : Nat) : List Int := (List.range k).map fun j => getI x (sumTo zs j) (nth zs j)
theorem splitTo_succ (x : Int) (zs : List Int) (k : Nat) : splitTo x zs (k + 1) = splitTo x zs k ++ [getI x (sumTo zs k) (nth zs k)] := by
  simp [splitTo, List.range_succ]
theorem splitTo_length (x : Int) (zs : List Int) (k : Nat) : (splitTo x zs k).length = k := by simp [splitTo]
theorem splitTo_nth {x : Int} {zs : List Int} {j k : Nat} (h : j < k) : nth (splitTo x zs k) j = getI x (sumTo zs j) (nth zs j) := by
  show ((List.range k).map fun j => getI x (sumTo zs j) (nth zs j)).getD j 0 = _
  simp [List.getD, h]

theorem u32s_of {zs : List Int} (h : ∀ n ∈ zs, (Lit.int .u32 n).wf = true) : U32s zs := by
  intro j
  show 0 ≤ zs.getD j 0 ∧ zs.getD j 0 ≤ 4294967295
  by_cases hj : j < zs.length
  · have e : zs.getD j 0 = zs[j] := by simp [List.getD, hj]
    rw [e]
    have := h zs[j] (List.getElem_mem hj)
    simp [Lit.wf, IntKind.min, IntKind.max, IntKind.signed, IntKind.bits] at this
    omega
  · have e : zs.getD j 0 = 0 := by simp [List.getD, Nat.not_lt.1 hj]
    rw [e]; omega
end Go.Proofs.YtljdbaddockfcaaGreat.Pk

namespace Go.Proofs.YtljdbaddockfcaaGreat.Pk
open Go.RowKit
set_option linter.unusedVariables false
set_option linter.unusedSimpArgs false

set_option maxHeartbeats 400000 in
theorem isWidth_yes (n : Int) (w : World) (h1 : 1 ≤ n) (h2 : n ≤ 32) :
    Calls Tryz.prog 222 #[.int .i64 n] w fun e w' => e = .returned (.bool true) ∧ w = w' := by
  go_enter Tryz.func222, Tryz.ntmps222
  go_wp2
  go_ret
  exact ⟨rfl, rfl⟩

set_option maxHeartbeats 400000 in
theorem isWidth_no (n : Int) (w : World) (h : ¬ (1 ≤ n ∧ n ≤ 32)) :
    Calls Tryz.prog 222 #[.int .i64 n] w fun e w' => e = .returned (.bool false) ∧ w = w' := by
  by_cases h1 : 1 ≤ n
  · have h2 : ¬ n ≤ 32 := fun h2 => h ⟨h1, h2⟩
    clear h
    go_enter Tryz.func222, Tryz.ntmps222
    go_wp2
    go_ret
    exact ⟨rfl, rfl⟩
  · clear h
    go_enter Tryz.func222, Tryz.ntmps222
    go_wp2
    go_ret
    exact ⟨rfl, rfl⟩

set_option maxHeartbeats 400000 in
theorem isPiece_yes (a n : Int) (w : World) (hp : pieceB a n = true) :
    Calls Tryz.prog 199 #[.int .i64 a, .int .i64 n] w fun e w' => e = .returned (.bool true) ∧ w = w' := by
  obtain ⟨h0, h1, h2, h3⟩ := pieceB_yes hp
  clear hp
  go_enter Tryz.func199, Tryz.ntmps199
  go_wp2_with (go_at_call 222; refine (isWidth_yes _ _ (by omega) (by omega)).mono ?_; rintro e w' ⟨rfl, rfl⟩)
  go_ret
  exact ⟨rfl, rfl⟩

set_option maxHeartbeats 400000 in
theorem isPiece_no (a n : Int) (w : World) (hp : pieceB a n = false) :
    Calls Tryz.prog 199 #[.int .i64 a, .int .i64 n] w fun e w' => e = .returned (.bool false) ∧ w = w' := by
  have h := pieceB_no hp
  clear hp
  by_cases hw : 1 ≤ n ∧ n ≤ 32
  · obtain ⟨h1, h2⟩ := hw
    by_cases h0 : 0 ≤ a
    · have h3 : ¬ a ≤ 32 - n := fun h3 => h ⟨h0, h1, h2, h3⟩
      clear h
      go_enter Tryz.func199, Tryz.ntmps199
      go_wp2_with (go_at_call 222; refine (isWidth_yes _ _ (by omega) (by omega)).mono ?_; rintro e w' ⟨rfl, rfl⟩)
      go_ret
      exact ⟨ret_bool (decide_eq_false (by omega)), rfl⟩
    · clear h
      go_enter Tryz.func199, Tryz.ntmps199
      go_wp2_with (go_at_call 222; refine (isWidth_yes _ _ (by omega) (by omega)).mono ?_; rintro e w' ⟨rfl, rfl⟩)
      go_ret
      exact ⟨rfl, rfl⟩
  · clear h
    have hW : Hid (¬ (1 ≤ n ∧ n ≤ 32)) := hw
    clear hw
    go_enter Tryz.func199, Tryz.ntmps199
    go_wp2_with (go_at_call 222; refine (isWidth_no _ _ hW.out).mono ?_; rintro e w' ⟨rfl, rfl⟩)
    go_ret
    exact ⟨rfl, rfl⟩

set_option maxHeartbeats 400000 in
theorem lowOnes_any (n : Int) (w : World) (h1 : 1 ≤ n) (h2 : n ≤ 32) :
    Calls Tryz.prog 200 #[.int .i64 n] w fun e w' => e = .returned (.int .u32 (pw n - 1)) ∧ w = w' := by
  go_enter Tryz.func200, Tryz.ntmps200
  go_wp2
  go_ret
  exact ⟨ret_int (lo_mask h1 h2), rfl⟩

set_option maxHeartbeats 400000 in
theorem fits_any (v n : Int) (w : World) (h0 : 0 ≤ v) (h1 : v ≤ 4294967295) :
    Calls Tryz.prog 220 #[.int .u32 v, .int .i64 n] w fun e w' => e = .returned (.bool (fitB v n)) ∧ w = w' := by
  by_cases hn : 0 ≤ n
  · go_enter Tryz.func220, Tryz.ntmps220
    go_wp2
    go_ret
    exact ⟨ret_bool (fits_shr h0 h1 hn), rfl⟩
  · go_enter Tryz.func220, Tryz.ntmps220
    go_wp2
    go_ret
    exact ⟨ret_bool (fits_neg h0 (by omega)), rfl⟩

set_option maxHeartbeats 400000 in
theorem get_yes (x a n : Int) (w : World) (h0 : 0 ≤ x) (h1 : x ≤ 4294967295) (hp : pieceB a n = true) :
    Calls Tryz.prog 168 #[.int .u32 x, .int .i64 a, .int .i64 n] w fun e w' => e = .returned (.int .u32 (getI x a n)) ∧ ∃ k, w' = w.drewN k := by
  obtain ⟨g0, g1, g2, g3⟩ := pieceB_yes hp
  have HG : Hid (bits .and .u32 (x / 2 ^ a.toNat) (pw n - 1) = getI x a n) := get_and h0 h1 hp
  have HP : Hid (pieceB a n = true) := hp
  clear hp
  go_enter Tryz.func168, Tryz.ntmps168
  go_wp2_with (go_at_call 199; refine (isPiece_yes _ _ _ HP.out).mono ?_; rintro e w' ⟨rfl, rfl⟩)
  go_quiet ((go_at_call 200; exact quiet_eq (lowOnes_any _ _ g1 g2)))
  go_wp2
  go_ret
  exact ⟨ret_int HG.out, _, rfl⟩

set_option maxHeartbeats 400000 in
theorem get_no (x a n : Int) (w : World) (hp : pieceB a n = false) :
    Calls Tryz.prog 168 #[.int .u32 x, .int .i64 a, .int .i64 n] w fun e w' => e = .returned (.int .u32 0) ∧ w = w' := by
  have HP : Hid (pieceB a n = false) := hp
  clear hp
  go_enter Tryz.func168, Tryz.ntmps168
  go_wp2_with (go_at_call 199; refine (isPiece_no _ _ _ HP.out).mono ?_; rintro e w' ⟨rfl, rfl⟩)
  go_ret
  exact ⟨rfl, rfl⟩

theorem ret_put {a b c : Int} (h : a = b) : Ending.returned (.tuple #[.int .u32 a, .int .i64 c]) = .returned (.tuple #[.int .u32 b, .int .i64 c]) := by rw [h]

set_option maxHeartbeats 400000 in
theorem put_no (x a n v : Int) (w : World) (hp : pieceB a n = false) :
    Calls Tryz.prog 195 #[.int .u32 x, .int .i64 a, .int .i64 n, .int .u32 v] w fun e w' => e = .returned (.tuple #[.int .u32 0, .int .i64 2]) ∧ w = w' := by
  have HP : Hid (pieceB a n = false) := hp
  clear hp
  go_enter Tryz.func195, Tryz.ntmps195
  go_wp2_with (go_at_call 199; refine (isPiece_no _ _ _ HP.out).mono ?_; rintro e w' ⟨rfl, rfl⟩)
  go_ret2
  exact ⟨rfl, rfl⟩

set_option maxHeartbeats 400000 in
theorem put_big (x a n v : Int) (w : World) (hp : pieceB a n = true) (hv0 : 0 ≤ v) (hv1 : v ≤ 4294967295) (hf : fitB v n = false) :
    Calls Tryz.prog 195 #[.int .u32 x, .int .i64 a, .int .i64 n, .int .u32 v] w fun e w' => e = .returned (.tuple #[.int .u32 0, .int .i64 15]) ∧ w = w' := by
  have HP : Hid (pieceB a n = true) := hp
  clear hp
  go_enter Tryz.func195, Tryz.ntmps195
  go_wp2_with (first | (go_at_call 199; refine (isPiece_yes _ _ _ HP.out).mono ?_; rintro e w' ⟨rfl, rfl⟩) | (go_at_call 220; refine (fits_any _ _ _ hv0 hv1).mono ?_; rintro e w' ⟨rfl, rfl⟩))
  go_ret2
  exact ⟨rfl, rfl⟩

set_option maxHeartbeats 400000 in
theorem put_yes (x a n v : Int) (w : World) (h0 : 0 ≤ x) (h1 : x ≤ 4294967295) (hp : pieceB a n = true) (hv0 : 0 ≤ v) (hv1 : v ≤ 4294967295) (hf : fitB v n = true) :
    Calls Tryz.prog 195 #[.int .u32 x, .int .i64 a, .int .i64 n, .int .u32 v] w fun e w' => e = .returned (.tuple #[.int .u32 (putI x a n v), .int .i64 0]) ∧ ∃ k, w' = w.drewN k := by
  obtain ⟨g0, g1, g2, g3⟩ := pieceB_yes hp
  have HG : Hid (bits .or .u32 (bits .andNot .u32 x (IntKind.u32.wrap ((pw n - 1) * 2 ^ a.toNat))) (IntKind.u32.wrap (v * 2 ^ a.toNat)) = putI x a n v) := put_or h0 h1 hv0 hp hf
  have HP : Hid (pieceB a n = true) := hp
  clear hp
  go_enter Tryz.func195, Tryz.ntmps195
  go_wp2_with (first | (go_at_call 199; refine (isPiece_yes _ _ _ HP.out).mono ?_; rintro e w' ⟨rfl, rfl⟩) | (go_at_call 220; refine (fits_any _ _ _ hv0 hv1).mono ?_; rintro e w' ⟨rfl, rfl⟩))
  go_quiet ((go_at_call 200; exact quiet_eq (lowOnes_any _ _ g1 g2)))
  go_wp2
  go_ret2
  exact ⟨ret_put HG.out, _, rfl⟩

end Go.Proofs.YtljdbaddockfcaaGreat.Pk

namespace Go.Proofs.YtljdbaddockfcaaGreat.Pk
open Go.RowKit
set_option linter.unusedVariables false
set_option linter.unusedSimpArgs false

/-- 2 to the n, n no more than 32. -/
def pw32 (n : Int) : Int := pw (min n 32)
theorem pw32_le {n : Int} (h : n ≤ 32) : pw32 n = pw n := by unfold pw32; rw [show min n 32 = n by omega]
theorem pw32_bd (n : Int) : 1 ≤ pw32 n ∧ pw32 n ≤ 4294967296 := by
  unfold pw32
  have := pw_pos (min n 32)
  have := pw_le32 (n := min n 32) (by omega)
  omega

end Go.Proofs.YtljdbaddockfcaaGreat.Pk

namespace Go.Proofs.YtljdbaddockfcaaGreat.Pk
open Go.RowKit
set_option linter.unusedVariables false
set_option linter.unusedSimpArgs false

theorem ret_ib {a b : Int} {c : Bool} (h : a = b) : Ending.returned (.tuple #[.int .i64 a, .bool c]) = .returned (.tuple #[.int .i64 b, .bool c]) := by rw [h]

end Go.Proofs.YtljdbaddockfcaaGreat.Pk

namespace Go.Proofs.YtljdbaddockfcaaGreat.Pk
open Go.RowKit
set_option linter.unusedVariables false
set_option linter.unusedSimpArgs false

theorem neq_len {m n : Nat} (h : m ≠ n) : ((m : Int) != (n : Int)) = true := by rw [bne_iff_ne]; omega
theorem eq_len {m n : Nat} (h : m = n) : ((m : Int) != (n : Int)) = false := by subst h; simp

/-! ### The document's -/
end Go.Proofs.YtljdbaddockfcaaGreat.Pk

namespace Go.Proofs.YtljdbaddockfcaaGreat.Pk
open Go.RowKit
set_option linter.unusedVariables false
set_option linter.unusedSimpArgs false

theorem infoU32 : (Tryz.prog.info? 79).map (fun i => (i.zero, i.size, i.bytes)) = some (some (.int .u32 0), 1, 4) := by kernel_rfl

/-- The pieces so far, and noughts for those still to come. -/
def part (x : Int) (zs : List Int) (k : Nat) : List Value := (splitTo x zs k ++ List.replicate (zs.length - k) 0).map (Value.int .u32)
theorem part_length (x : Int) (zs : List Int) (k : Nat) (hk : k ≤ zs.length) : (part x zs k).length = zs.length := by
  simp [part, splitTo_length]; omega
theorem part_zero (x : Int) (zs : List Int) : part x zs 0 = List.replicate zs.length (.int .u32 0) := by
  simp [part, splitTo]
theorem part_at (x : Int) (zs : List Int) (k : Nat) (hk : k < zs.length) : (part x zs k)[k]? = some (.int .u32 0) := by
  unfold part
  rw [List.getElem?_map, List.getElem?_append_right (by rw [splitTo_length]; omega), splitTo_length, List.getElem?_replicate, if_pos (by omega)]
  rfl
theorem part_set (x : Int) (zs : List Int) (k : Nat) (hk : k < zs.length) :
    (part x zs k).set k (.int .u32 (getI x (sumTo zs k) (nth zs k))) = part x zs (k + 1) := by
  unfold part
  rw [splitTo_succ, show zs.length - k = (zs.length - (k + 1)) + 1 by omega, List.replicate_succ, List.map_append, List.set_append_right _ _ (by rw [List.length_map, splitTo_length]; omega)]
  rw [List.length_map, splitTo_length, Nat.sub_self]
  simp
theorem part_all (x : Int) (zs : List Int) : part x zs zs.length = (splitTo x zs zs.length).map (Value.int .u32) := by
  simp [part]

/-- The end of a Split: the pieces, in memory of its own. -/
def Pieces (x : Int) (zs : List Int) (w : World) (e : Ending) (w' : World) : Prop :=
  ∃ a cap, e = .returned (.tuple #[.slice a zs.length cap, .int .i64 0]) ∧ Row w' .u32 a (splitTo x zs zs.length) ∧ Below w.heap.size w w'
theorem Pieces.mk {x : Int} {zs : List Int} {w w' : World} {v : Value} {B : Nat} {t : TypeId}
    (h : w'.ownsRow B t 1 v zs.length ((splitTo x zs zs.length).map (Value.int .u32))) (hb : Below w.heap.size w w') : Pieces x zs w (.returned (.tuple #[v, .int .i64 0])) w' := by
  have h2 : w'.ownsRow B t 1 v (splitTo x zs zs.length).length ((splitTo x zs zs.length).map (Value.int .u32)) := by rw [splitTo_length]; exact h
  obtain ⟨a, cap, hv, hr⟩ := Row.of_owns h2
  rw [splitTo_length] at hv
  exact ⟨a, cap, by rw [hv], hr, hb⟩

theorem fits_yes (v n : Int) (w : World) (h0 : 0 ≤ v) (h1 : v ≤ 4294967295) (h : fitB v n = true) :
    Calls Tryz.prog 220 #[.int .u32 v, .int .i64 n] w fun e w' => e = .returned (.bool true) ∧ w = w' := by
  rw [← h]; exact fits_any v n w h0 h1
theorem fits_not (v n : Int) (w : World) (h0 : 0 ≤ v) (h1 : v ≤ 4294967295) (h : fitB v n = false) :
    Calls Tryz.prog 220 #[.int .u32 v, .int .i64 n] w fun e w' => e = .returned (.bool false) ∧ w = w' := by
  rw [← h]; exact fits_any v n w h0 h1

/-! ### The document's -/
/-- The relation of the document's loop: the pieces so far, in memory of its own. -/
def Gathered (x : Int) (zs : List Int) (w : World) (k : Nat) (v : Value) (wr : World) : Prop :=
  wr.ownsRow w.heap.size 79 1 v k ((splitTo x zs k).map (Value.int .u32)) ∧ Below w.heap.size w wr

set_option maxHeartbeats 400000 in
theorem pk_same_yes (a b : Option Addr) (ca cb : Nat) (zs : List Int) (w : World) (h1 : Row w .u32 a zs) (h2 : Row w .u32 b zs) (hlen : (zs.length : Int) ≤ 9223372036854775807) :
    Calls Tryz.prog 92 #[.slice a zs.length ca, .slice b zs.length cb] w fun e w' => e = .returned (.bool true) ∧ Drw w w' := by
  go_enter Tryz.func92, Tryz.ntmps92
  go_wp2
  go_loopw [5] (fun i wr => ∃ k : Nat, k ≤ zs.length ∧ i = .int .i64 k ∧ Drw w wr) (fun i _ => zs.length - (intOf i).toNat)
  case atStart => exact ⟨0, Nat.zero_le _, rfl, Drw.refl _⟩
  case round =>
    obtain ⟨k, hk, rfl, hd⟩ := hrel
    by_cases hlt : k < zs.length
    · obtain ⟨b1, o1, rfl, hb1, hc1⟩ := (h1.drw hd) k hlt
      obtain ⟨b2, o2, rfl, hb2, hc2⟩ := (h2.drw hd) k hlt
      go_wp2
      go_quiet (fail)
      go_wp2
      go_roundw
      case rel => exact ⟨k + 1, by omega, by go_num, hd.step _⟩
      case measure => simp [intOf]; omega
    · go_wp2
      go_ret
      exact ⟨rfl, hd⟩

end Go.Proofs.YtljdbaddockfcaaGreat.Pk

namespace Go.Proofs.YtljdbaddockfcaaGreat.Pk
open Go.RowKit
set_option linter.unusedVariables false
set_option linter.unusedSimpArgs false

/-- Put's word, and Put's error. -/
def putV (x a n v : Int) : Int := if pieceB a n = true then (if fitB v n = true then putI x a n v else 0) else 0
def putE (a n v : Int) : Int := if pieceB a n = true then (if fitB v n = true then 0 else 15) else 2
theorem putV_yes {x a n v : Int} (h1 : pieceB a n = true) (h2 : fitB v n = true) : putV x a n v = putI x a n v := by unfold putV; rw [if_pos h1, if_pos h2]
theorem putE_yes {a n v : Int} (h1 : pieceB a n = true) (h2 : fitB v n = true) : putE a n v = 0 := by unfold putE; rw [if_pos h1, if_pos h2]
theorem putE_zero {a n v : Int} (h : putE a n v = 0) : pieceB a n = true ∧ fitB v n = true := by
  unfold putE at h
  by_cases h1 : pieceB a n = true
  · rw [if_pos h1] at h
    by_cases h2 : fitB v n = true
    · exact ⟨h1, h2⟩
    · rw [if_neg h2] at h; cases h
  · rw [if_neg h1] at h; cases h
theorem putV_bad {x a n v : Int} (h : putE a n v ≠ 0) : putV x a n v = 0 := by
  unfold putE at h
  unfold putV
  by_cases h1 : pieceB a n = true
  · rw [if_pos h1] at h ⊢
    by_cases h2 : fitB v n = true
    · rw [if_pos h2] at h; exact absurd rfl h
    · rw [if_neg h2]
  · rw [if_neg h1]
theorem ret_put2 {a b c d : Int} (h : a = b) (h2 : c = d) : Ending.returned (.tuple #[.int .u32 a, .int .i64 c]) = .returned (.tuple #[.int .u32 b, .int .i64 d]) := by rw [h, h2]

theorem get_any (x a n : Int) (w : World) (h0 : 0 ≤ x) (h1 : x ≤ 4294967295) :
    Calls Tryz.prog 168 #[.int .u32 x, .int .i64 a, .int .i64 n] w fun e w' => e = .returned (.int .u32 (getI x a n)) ∧ Drw w w' := by
  cases hp : pieceB a n
  · refine (get_no x a n w hp).mono fun e w' ⟨he, hw⟩ => ⟨?_, hw ▸ Drw.refl w⟩
    rw [he]; exact ret_int (by unfold getI; rw [hp]; rfl)
  · exact get_yes x a n w h0 h1 hp

theorem put_any (x a n v : Int) (w : World) (h0 : 0 ≤ x) (h1 : x ≤ 4294967295) (hv0 : 0 ≤ v) (hv1 : v ≤ 4294967295) :
    Calls Tryz.prog 195 #[.int .u32 x, .int .i64 a, .int .i64 n, .int .u32 v] w fun e w' => e = .returned (.tuple #[.int .u32 (putV x a n v), .int .i64 (putE a n v)]) ∧ Drw w w' := by
  cases hp : pieceB a n
  · refine (put_no x a n v w hp).mono fun e w' ⟨he, hw⟩ => ⟨?_, hw ▸ Drw.refl w⟩
    rw [he]; exact ret_put2 (by unfold putV; rw [hp]; rfl) (by unfold putE; rw [hp]; rfl)
  · cases hf : fitB v n
    · refine (put_big x a n v w hp hv0 hv1 hf).mono fun e w' ⟨he, hw⟩ => ⟨?_, hw ▸ Drw.refl w⟩
      rw [he]; exact ret_put2 (by unfold putV; rw [hp, hf]; rfl) (by unfold putE; rw [hp, hf]; rfl)
    · refine (put_yes x a n v w h0 h1 hp hv0 hv1 hf).mono fun e w' ⟨he, hw⟩ => ⟨?_, hw⟩
      rw [he]; exact ret_put2 (putV_yes hp hf).symm (putE_yes hp hf).symm

theorem putV_bd (x a n v : Int) (h0 : 0 ≤ x) (h1 : x ≤ 4294967295) (hv0 : 0 ≤ v) : 0 ≤ putV x a n v ∧ putV x a n v ≤ 4294967295 := by
  unfold putV
  split
  · rename_i hp
    split
    · rename_i hf
      exact ⟨putI_lo h0 hv0 hp, putI_hi h0 h1 hv0 hp hf⟩
    · omega
  · omega

open Classical in
/-- Join's word, and Join's error. -/
noncomputable def joinE (zs ls : List Int) : Int := if rightTo zs zs.length ∧ ls.length = zs.length then (if fitsTo zs ls zs.length then 0 else 15) else 2
open Classical in
noncomputable def joinV (zs ls : List Int) : Int := if joinE zs ls = 0 then joinTo zs ls zs.length else 0
theorem joinE_yes {zs ls : List Int} (h1 : rightTo zs zs.length) (h2 : ls.length = zs.length) (h3 : fitsTo zs ls zs.length) : joinE zs ls = 0 := by
  unfold joinE; rw [if_pos ⟨h1, h2⟩, if_pos h3]
theorem joinE_big {zs ls : List Int} (h1 : rightTo zs zs.length) (h2 : ls.length = zs.length) (h3 : ¬ fitsTo zs ls zs.length) : joinE zs ls = 15 := by
  unfold joinE; rw [if_pos ⟨h1, h2⟩, if_neg h3]
theorem joinE_bad {zs ls : List Int} (h : ¬ (rightTo zs zs.length ∧ ls.length = zs.length)) : joinE zs ls = 2 := by
  unfold joinE; rw [if_neg h]
theorem joinV_yes {zs ls : List Int} (h : joinE zs ls = 0) : joinV zs ls = joinTo zs ls zs.length := by unfold joinV; rw [if_pos h]
theorem joinV_bad {zs ls : List Int} (h : joinE zs ls ≠ 0) : joinV zs ls = 0 := by unfold joinV; rw [if_neg h]
theorem joinE_zero {zs ls : List Int} (h : joinE zs ls = 0) : rightTo zs zs.length ∧ ls.length = zs.length ∧ fitsTo zs ls zs.length := by
  by_cases h1 : rightTo zs zs.length ∧ ls.length = zs.length
  · by_cases h2 : fitsTo zs ls zs.length
    · exact ⟨h1.1, h1.2, h2⟩
    · rw [joinE_big h1.1 h1.2 h2] at h; cases h
  · rw [joinE_bad h1] at h; cases h

open Classical in
/-- Split's numbers, and Split's error. -/
noncomputable def splitE (x : Int) (zs : List Int) : Int := if rightTo zs zs.length then (if fitB x (sumTo zs zs.length) = true then 0 else 15) else 2
open Classical in
noncomputable def splitL (x : Int) (zs : List Int) : List Int := if splitE x zs = 0 then splitTo x zs zs.length else []
theorem splitE_yes {x : Int} {zs : List Int} (h1 : rightTo zs zs.length) (h2 : fitB x (sumTo zs zs.length) = true) : splitE x zs = 0 := by
  unfold splitE; rw [if_pos h1, if_pos h2]
theorem splitE_big {x : Int} {zs : List Int} (h1 : rightTo zs zs.length) (h2 : fitB x (sumTo zs zs.length) = false) : splitE x zs = 15 := by
  unfold splitE; rw [if_pos h1, h2]; rfl
theorem splitE_bad {x : Int} {zs : List Int} (h1 : ¬ rightTo zs zs.length) : splitE x zs = 2 := by
  unfold splitE; rw [if_neg h1]
theorem splitL_yes {x : Int} {zs : List Int} (h : splitE x zs = 0) : splitL x zs = splitTo x zs zs.length := by unfold splitL; rw [if_pos h]
theorem splitL_bad {x : Int} {zs : List Int} (h : splitE x zs ≠ 0) : splitL x zs = [] := by unfold splitL; rw [if_neg h]
theorem splitE_zero {x : Int} {zs : List Int} (h : splitE x zs = 0) : rightTo zs zs.length ∧ fitB x (sumTo zs zs.length) = true := by
  by_cases h1 : rightTo zs zs.length
  · cases h2 : fitB x (sumTo zs zs.length)
    · rw [splitE_big h1 h2] at h; cases h
    · exact ⟨h1, rfl⟩
  · rw [splitE_bad h1] at h; cases h

/-- The end of a Split, whatever it was given. -/
def Splitted (x : Int) (zs : List Int) (w : World) (e : Ending) (w' : World) : Prop :=
  ∃ a cap, e = .returned (.tuple #[.slice a (splitL x zs).length cap, .int .i64 (splitE x zs)]) ∧ Row w' .u32 a (splitL x zs) ∧ Below w.heap.size w w'
theorem Splitted.of_pieces {x : Int} {zs : List Int} {w w' : World} {e : Ending} (h1 : rightTo zs zs.length) (h2 : fitB x (sumTo zs zs.length) = true) (h : Pieces x zs w e w') : Splitted x zs w e w' := by
  obtain ⟨a, cap, he, hr, hb⟩ := h
  have h3 := splitE_yes h1 h2
  refine ⟨a, cap, ?_, ?_, hb⟩
  · rw [splitL_yes h3, splitTo_length, h3]; exact he
  · rw [splitL_yes h3]; exact hr
theorem Splitted.of_bad {x : Int} {zs : List Int} {w w' : World} {c : Int} (h : splitE x zs = c) (hc : c ≠ 0) (hb : Below w.heap.size w w') : Splitted x zs w (.returned (.tuple #[.slice none 0 0, .int .i64 c])) w' := by
  have h3 := splitL_bad (x := x) (zs := zs) (by rw [h]; exact hc)
  exact ⟨none, 0, by rw [h3, h]; rfl, by rw [h3]; exact Row.nil _ _ _, hb⟩

theorem joinV_bd (zs ls : List Int) (hu : U32s ls) : 0 ≤ joinV zs ls ∧ joinV zs ls ≤ 4294967295 := by
  by_cases h : joinE zs ls = 0
  · obtain ⟨h1, h2, h3⟩ := joinE_zero h
    rw [joinV_yes h]; exact joinTo_32 h1 hu h3
  · rw [joinV_bad h]; omega

/-! ### What is put is got -/
theorem getI_put {x a n v : Int} (h0 : 0 ≤ x) (h1 : x ≤ 4294967295) (hv0 : 0 ≤ v) (hp : pieceB a n = true) (hf : fitB v n = true) (a2 n2 : Int) (hp2 : pieceB a2 n2 = true) (hd : a + n ≤ a2 ∨ a2 + n2 ≤ a) :
    getI (putI x a n v) a2 n2 = getI x a2 n2 := by
  obtain ⟨ha, hn1, hn2, hd1⟩ := pieceB_yes hp
  obtain ⟨ha2, hm1, hm2, hd2⟩ := pieceB_yes hp2
  have hv : v < pw n := of_decide_eq_true hf
  have hA := pw_pos a
  have hN := pw_pos n
  have hA2 := pw_pos a2
  have hM := pw_pos n2
  -- x in three pieces: low + mid * 2^a + high * 2^(a+n)
  have e1 := Int.emod_add_mul_ediv x (pw a)
  have e2 := Int.emod_add_mul_ediv (x / pw a) (pw n)
  have l1 := Int.emod_nonneg x (by omega : pw a ≠ 0)
  have l2 := Int.emod_lt_of_pos x hA
  unfold putI
  have g : getI x a n = x / pw a % pw n := by unfold getI; rw [if_pos hp]
  rw [g]
  generalize x % pw a = lo at *
  generalize hmid : x / pw a % pw n = mid at *
  generalize x / pw a / pw n = hi at *
  have m0 : 0 ≤ mid := by rw [← hmid]; exact Int.emod_nonneg _ (by omega)
  have m1 : mid < pw n := by rw [← hmid]; exact Int.emod_lt_of_pos _ hN
  have ex : x = lo + mid * pw a + hi * (pw a * pw n) := by
    rw [← e1, ← e2, Int.mul_add, Int.mul_comm (pw a) mid, ← Int.mul_assoc (pw a), Int.mul_comm (pw a * pw n)]
    omega
  have ey : x - mid * pw a + v * pw a = lo + v * pw a + hi * (pw a * pw n) := by omega
  rw [ey]
  unfold getI
  rw [if_pos hp2, if_pos hp2]
  rcases hd with hd | hd
  · -- behind it
    have ep : pw a2 = pw (a2 - (a + n)) * (pw a * pw n) := by
      rw [← pw_add ha (by omega), ← pw_add (by omega) (by omega)]; congr 1; omega
    have hB : 0 < pw a * pw n := Int.mul_pos hA hN
    have small : ∀ u : Int, 0 ≤ u → u < pw n → (lo + u * pw a + hi * (pw a * pw n)) / pw a2 = hi / pw (a2 - (a + n)) := by
      intro u u0 u1
      have s1 : lo + u * pw a < pw a * pw n := by
        have : (u + 1) * pw a ≤ pw n * pw a := Int.mul_le_mul_of_nonneg_right (by omega) (by omega)
        rw [Int.add_mul, Int.mul_comm (pw n)] at this
        omega
      have s0 : 0 ≤ lo + u * pw a := by have := Int.mul_nonneg u0 (Int.le_of_lt hA); omega
      rw [ep, Int.mul_comm (pw (a2 - (a + n))), ← Int.ediv_ediv_of_nonneg (Int.le_of_lt hB), Int.add_mul_ediv_right _ _ (by omega), Int.ediv_eq_zero_of_lt s0 s1, Int.zero_add]
    rw [small v hv0 hv, ex, small mid m0 m1]
  · -- ahead of it
    have ep : pw a = pw (a - (a2 + n2)) * pw n2 * pw a2 := by
      rw [← pw_add (by omega) (by omega), ← pw_add (by omega) ha2]; congr 1; omega
    have both : ∀ u : Int, (lo + u * pw a + hi * (pw a * pw n)) / pw a2 % pw n2 = lo / pw a2 % pw n2 := by
      intro u
      have e : lo + u * pw a + hi * (pw a * pw n) = lo + (u * pw (a - (a2 + n2)) + hi * pw n * pw (a - (a2 + n2))) * pw n2 * pw a2 := by
        have t1 : u * pw a = u * pw (a - (a2 + n2)) * pw n2 * pw a2 := by rw [ep]; simp only [Int.mul_assoc]
        have t2 : hi * (pw a * pw n) = hi * pw n * pw (a - (a2 + n2)) * pw n2 * pw a2 := by
          rw [Int.mul_comm (pw a) (pw n), ← Int.mul_assoc]
          rw [show hi * pw n * pw a = hi * pw n * (pw (a - (a2 + n2)) * pw n2 * pw a2) by rw [← ep]]
          simp only [Int.mul_assoc]
        rw [t1, t2, Int.add_mul, Int.add_mul, Int.add_assoc]
      rw [e, Int.add_mul_ediv_right _ _ (by omega), Int.add_mul_emod_self_right]
    rw [both v, ex, both mid]

theorem getI_same {x a n v : Int} (h0 : 0 ≤ x) (hv0 : 0 ≤ v) (hp : pieceB a n = true) (hf : fitB v n = true) : getI (putI x a n v) a n = v := by
  obtain ⟨ha, hn1, hn2, hd1⟩ := pieceB_yes hp
  have hv : v < pw n := of_decide_eq_true hf
  have hA := pw_pos a
  have hN := pw_pos n
  have e1 := Int.emod_add_mul_ediv x (pw a)
  have e2 := Int.emod_add_mul_ediv (x / pw a) (pw n)
  have l1 := Int.emod_nonneg x (by omega : pw a ≠ 0)
  have l2 := Int.emod_lt_of_pos x hA
  unfold putI
  have g : getI x a n = x / pw a % pw n := by unfold getI; rw [if_pos hp]
  rw [g]
  unfold getI
  rw [if_pos hp]
  have ey : x - x / pw a % pw n * pw a + v * pw a = x % pw a + (v + x / pw a / pw n * pw n) * pw a := by
    have t : pw a * (x / pw a) = x / pw a % pw n * pw a + x / pw a / pw n * pw n * pw a := by
      rw [← Int.add_mul, Int.mul_comm (x / pw a / pw n), e2, Int.mul_comm]
    rw [Int.add_mul]
    omega
  rw [ey, Int.add_mul_ediv_right _ _ (by omega), Int.ediv_eq_zero_of_lt l1 l2, Int.zero_add, Int.add_mul_emod_self_right, Int.emod_eq_of_lt hv0 hv]

theorem fit_get {x a n : Int} (hp : pieceB a n = true) : fitB (getI x a n) n = true := by
  unfold fitB; exact decide_eq_true getI_lt
theorem put_back {x a n v : Int} (h0 : 0 ≤ x) (hv0 : 0 ≤ v) (hp : pieceB a n = true) (hf : fitB v n = true) : putI (putI x a n v) a n (getI x a n) = x := by
  have e := getI_same h0 hv0 hp hf
  show putI x a n v - getI (putI x a n v) a n * pw a + getI x a n * pw a = x
  rw [e]
  unfold putI
  omega


end Go.Proofs.YtljdbaddockfcaaGreat.Pk
