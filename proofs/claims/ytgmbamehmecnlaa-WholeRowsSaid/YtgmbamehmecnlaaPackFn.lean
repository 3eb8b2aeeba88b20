/-
  PkMath: Plain facts on pieces of 32-bit words, sums of widths, and numbers of ones: no program in sight.
  Pack: What the functions of package pack that take no slices return, whatever they are given.
  RefPack: What the document's functions on pieces of words return, whatever they are given: the same as the program's.
  PackTab: What the functions of package pack that take slices return, and the document's.
  PackJoin: What Join returns: the program's, and the document's.
  PackSplit: What Split returns: the program's, and the document's; and the document's Same.
  PackAny: One contract for each function on pieces, whatever it is given: the program's and the document's end alike.
-/
import Derived.Test.YtgmbamehmecnlaaBase
import Derived.Test.YtgmbamehmecnlaaProg
import Derived.WalkKit
import Derived.WalkSpells
import Derived.WalkLawsBesides
import Derived.Deep.QuietTactic
import Derived.BigQuiet

namespace Go.Proofs.Ytgmbamehmecnlaa.Pk
open Go.RowKit
set_option linter.unusedVariables false
set_option linter.unusedSimpArgs false

/-- 2 to the n. -/
def pw (n : Int) : Int := 2 ^ n.toNat
theorem pw_pos (n : Int) : 0 < pw n := Int.pow_pos (by decide)
/-- Is there such a piece? -/
def pieceB (at' n : Int) : Bool := decide (0 ≤ at' ∧ 1 ≤ n ∧ n ≤ 32 ∧ at' ≤ 32 - n)
theorem pieceB_yes {a n : Int} (h : pieceB a n = true) : 0 ≤ a ∧ 1 ≤ n ∧ n ≤ 32 ∧ a ≤ 32 - n := of_decide_eq_true h
theorem pieceB_no {a n : Int} (h : pieceB a n = false) : ¬ (0 ≤ a ∧ 1 ≤ n ∧ n ≤ 32 ∧ a ≤ 32 - n) := of_decide_eq_false h
/-- A piece's number. -/
def getI (w a n : Int) : Int := if pieceB a n = true then w / pw a % pw n else 0
/-- Does v fit n bits? -/
def fitB (v n : Int) : Bool := decide (v < pw n)
/-- A word with another piece. -/
def putI (w a n v : Int) : Int := w - getI w a n * pw a + v * pw a

theorem pw_le {m n : Int} (h : m ≤ n) : pw m ≤ pw n := by
  unfold pw
  have h1 : m.toNat ≤ n.toNat := by omega
  have := Nat.pow_le_pow_right (n := 2) (by decide) h1
  exact_mod_cast this
theorem pw_add {m n : Int} (hm : 0 ≤ m) (hn : 0 ≤ n) : pw (m + n) = pw m * pw n := by
  unfold pw
  rw [Int.toNat_add hm hn, Int.pow_add]
theorem pw_32 : pw 32 = 4294967296 := by decide
theorem pw_0 : pw 0 = 1 := by decide
theorem pw_neg {n : Int} (h : n ≤ 0) : pw n = 1 := by
  unfold pw
  have : n.toNat = 0 := by omega
  rw [this]; rfl
theorem pw_le32 {n : Int} (h : n ≤ 32) : pw n ≤ 4294967296 := by rw [← pw_32]; exact pw_le h
theorem pw_ge32 {n : Int} (h : 32 ≤ n) : 4294967296 ≤ pw n := by rw [← pw_32]; exact pw_le h
theorem lo_mask {n : Int} (h1 : 1 ≤ n) (h2 : n ≤ 32) : (4294967295 : Int) / 2 ^ (32 - n).toNat = pw n - 1 := by
  have e : pw n * pw (32 - n) = 4294967296 := by
    rw [← pw_add (by omega) (by omega), show n + (32 - n) = 32 by omega, pw_32]
  have hp := pw_pos (32 - n)
  have hq := pw_pos n
  show (4294967295 : Int) / pw (32 - n) = pw n - 1
  have e2 : (4294967295 : Int) = (pw (32 - n) - 1) + (pw n - 1) * pw (32 - n) := by
    rw [Int.sub_mul, e]; omega
  rw [e2, Int.add_mul_ediv_right _ _ (by omega), Int.ediv_eq_zero_of_lt (by omega) (by omega)]
  omega

theorem getI_lo {w a n : Int} (h0 : 0 ≤ w) : 0 ≤ getI w a n := by
  unfold getI; split
  · exact Int.emod_nonneg _ (by have := pw_pos n; omega)
  · exact Int.le_refl _
theorem getI_lt {w a n : Int} : getI w a n < pw n := by
  unfold getI; split
  · exact Int.emod_lt_of_pos _ (pw_pos n)
  · exact pw_pos n
theorem getI_hi {w a n : Int} (h0 : 0 ≤ w) (h1 : w ≤ 4294967295) : getI w a n ≤ 4294967295 := by
  by_cases hp : pieceB a n = true
  · have h := pieceB_yes hp
    have := getI_lt (w := w) (a := a) (n := n)
    have := pw_le32 h.2.2.1
    omega
  · have : getI w a n = 0 := by unfold getI; rw [if_neg hp]
    omega

theorem get_and {w a n : Int} (h0 : 0 ≤ w) (h1 : w ≤ 4294967295) (hp : pieceB a n = true) :
    bits .and .u32 (w / 2 ^ a.toNat) (pw n - 1) = getI w a n := by
  obtain ⟨ha, hn1, hn2, hd⟩ := pieceB_yes hp
  have hle : w / pw a ≤ w := Int.ediv_le_self _ h0
  have hge : 0 ≤ w / pw a := Int.ediv_nonneg h0 (Int.le_of_lt (pw_pos a))
  have hm := pw_le32 hn2
  have hp0 := pw_pos n
  show bits .and .u32 (w / pw a) (pw n - 1) = _
  rw [u32_and _ _ hge (by omega) (by omega) (by omega)]
  unfold getI
  rw [if_pos hp]
  obtain ⟨X, hX⟩ := Int.eq_ofNat_of_zero_le hge
  rw [hX]
  have e : (pw n - 1).toNat = 2 ^ n.toNat - 1 := by
    unfold pw
    have : ((2 : Int) ^ n.toNat) = ((2 ^ n.toNat : Nat) : Int) := by simp
    rw [this]; omega
  rw [e, Int.toNat_natCast, Nat.and_two_pow_sub_one_eq_mod]
  unfold pw
  simp

theorem split_word (w a n : Nat) : w = (w / 2 ^ (a + n)) * 2 ^ (a + n) + (w / 2 ^ a % 2 ^ n) * 2 ^ a + w % 2 ^ a := by
  have h1 := Nat.div_add_mod w (2 ^ a)
  have h2 := Nat.div_add_mod (w / 2 ^ a) (2 ^ n)
  rw [Nat.div_div_eq_div_mul, ← Nat.pow_add] at h2
  have h3 : 2 ^ a * (2 ^ n * (w / 2 ^ (a + n))) = w / 2 ^ (a + n) * 2 ^ (a + n) := by
    rw [Nat.pow_add, ← Nat.mul_assoc, Nat.mul_comm]
  have h4 : 2 ^ a * (w / 2 ^ a) = 2 ^ a * (2 ^ n * (w / 2 ^ (a + n))) + 2 ^ a * (w / 2 ^ a % 2 ^ n) := by
    rw [← Nat.mul_add, h2]
  have h5 : 2 ^ a * (w / 2 ^ a % 2 ^ n) = w / 2 ^ a % 2 ^ n * 2 ^ a := Nat.mul_comm _ _
  omega

/-- The bits of a word with another piece, in the program's way. -/
theorem put_nat (w a n v : Nat) (hv : v < 2 ^ n) (hw : w < 2 ^ 32) (hn : a + n ≤ 32) :
    (w &&& (4294967295 - (2 ^ n - 1) * 2 ^ a)) ||| v * 2 ^ a = (w / 2 ^ (a + n)) * 2 ^ (a + n) + v * 2 ^ a + w % 2 ^ a := by
  have hmul : (2 ^ n - 1) * 2 ^ a < 2 ^ 32 := by
    have h1 : (2 ^ n - 1) * 2 ^ a < 2 ^ n * 2 ^ a := Nat.mul_lt_mul_of_pos_right (by have := Nat.two_pow_pos n; omega) (Nat.two_pow_pos a)
    rw [← Nat.pow_add] at h1
    exact Nat.lt_of_lt_of_le h1 (Nat.pow_le_pow_right (by decide) (by omega))
  have hlow : v * 2 ^ a + w % 2 ^ a < 2 ^ (a + n) := by
    have h1 : (v + 1) * 2 ^ a ≤ 2 ^ n * 2 ^ a := Nat.mul_le_mul_right _ hv
    rw [Nat.add_mul, Nat.one_mul] at h1
    have h2 := Nat.mod_lt w (Nat.two_pow_pos a)
    rw [Nat.pow_add, Nat.mul_comm (2 ^ a)]
    omega
  apply Nat.eq_of_testBit_eq
  intro j
  have e1 : (4294967295 - (2 ^ n - 1) * 2 ^ a) = 2 ^ 32 - ((2 ^ n - 1) * 2 ^ a + 1) := by omega
  rw [Nat.testBit_or, Nat.testBit_and, e1, Nat.testBit_two_pow_sub_succ hmul]
  rw [Nat.add_assoc, Nat.mul_comm (w / 2 ^ (a + n)), Nat.testBit_two_pow_mul_add _ hlow, Nat.mul_comm v, Nat.testBit_two_pow_mul_add _ (Nat.mod_lt w (Nat.two_pow_pos a))]
  rw [Nat.mul_comm (2 ^ n - 1), Nat.testBit_two_pow_mul, Nat.testBit_two_pow_mul, Nat.testBit_two_pow_sub_one, Nat.testBit_mod_two_pow, Nat.testBit_div_two_pow]
  by_cases hj : j < a
  · have h1 : ¬ a ≤ j := by omega
    have h2 : j < a + n := by omega
    have h3 : j < 32 := by omega
    simp [hj, h1, h2, h3]
  · by_cases hj2 : j < a + n
    · have h1 : a ≤ j := by omega
      have h2 : j - a < n := by omega
      simp [hj, hj2, h1, h2]
    · have h1 : a ≤ j := by omega
      have h2 : ¬ j - a < n := by omega
      have h3 : v.testBit (j - a) = false := by
        apply Nat.testBit_lt_two_pow
        exact Nat.lt_of_lt_of_le hv (Nat.pow_le_pow_right (by decide) (by omega))
      have h4 : a + n + (j - (a + n)) = j := by omega
      have h6 : j - (a + n) + (a + n) = j := by omega
      by_cases h5 : j < 32
      · simp [hj, hj2, h1, h2, h3, h4, h5, h6]
      · have hwj : w.testBit j = false := by
          apply Nat.testBit_lt_two_pow
          exact Nat.lt_of_lt_of_le hw (Nat.pow_le_pow_right (by decide) (by omega))
        simp [hj, hj2, h1, h2, h3, h4, h5, h6, hwj]

theorem put_or {w a n v : Int} (h0 : 0 ≤ w) (h1 : w ≤ 4294967295) (hv0 : 0 ≤ v) (hp : pieceB a n = true) (hf : fitB v n = true) :
    bits .or .u32 (bits .andNot .u32 w (IntKind.u32.wrap ((pw n - 1) * 2 ^ a.toNat))) (IntKind.u32.wrap (v * 2 ^ a.toNat)) = putI w a n v := by
  obtain ⟨ha, hn1, hn2, hd⟩ := pieceB_yes hp
  have hv : v < pw n := of_decide_eq_true hf
  obtain ⟨A, rfl⟩ := Int.eq_ofNat_of_zero_le ha
  obtain ⟨N, rfl⟩ := Int.eq_ofNat_of_zero_le (by omega : 0 ≤ n)
  obtain ⟨W, rfl⟩ := Int.eq_ofNat_of_zero_le h0
  obtain ⟨V, rfl⟩ := Int.eq_ofNat_of_zero_le hv0
  have eN : pw (N : Int) = ((2 ^ N : Nat) : Int) := by unfold pw; simp
  have eA : pw (A : Int) = ((2 ^ A : Nat) : Int) := by unfold pw; simp
  have eA2 : (2 : Int) ^ (A : Int).toNat = ((2 ^ A : Nat) : Int) := by simp
  have hV : V < 2 ^ N := by rw [eN] at hv; exact_mod_cast hv
  have hs : A + N ≤ 32 := by omega
  have hW : W < 2 ^ 32 := by omega
  have hpos := Nat.two_pow_pos N
  have eM : (pw (N : Int) - 1) * 2 ^ (A : Int).toNat = (((2 ^ N - 1) * 2 ^ A : Nat) : Int) := by
    rw [eN, eA2, Int.natCast_mul, Int.natCast_sub hpos]; simp
  have eV : (V : Int) * 2 ^ (A : Int).toNat = ((V * 2 ^ A : Nat) : Int) := by rw [eA2, Int.natCast_mul]
  have bM : (2 ^ N - 1) * 2 ^ A < 2 ^ 32 := by
    have h1 : (2 ^ N - 1) * 2 ^ A < 2 ^ N * 2 ^ A := Nat.mul_lt_mul_of_pos_right (by omega) (Nat.two_pow_pos A)
    rw [← Nat.pow_add] at h1
    exact Nat.lt_of_lt_of_le h1 (Nat.pow_le_pow_right (by decide) (by omega))
  have bV : V * 2 ^ A < 2 ^ 32 := by
    have h1 : V * 2 ^ A < 2 ^ N * 2 ^ A := Nat.mul_lt_mul_of_pos_right hV (Nat.two_pow_pos A)
    rw [← Nat.pow_add] at h1
    exact Nat.lt_of_lt_of_le h1 (Nat.pow_le_pow_right (by decide) (by omega))
  rw [eM, eV, IntKind.wrap_u32, IntKind.wrap_u32]
  rw [show ((((2 ^ N - 1) * 2 ^ A : Nat) : Int)) % 4294967296 = (((2 ^ N - 1) * 2 ^ A : Nat) : Int) from by omega]
  rw [show ((V * 2 ^ A : Nat) : Int) % 4294967296 = ((V * 2 ^ A : Nat) : Int) from by omega]
  rw [u32_andNot _ _ (by omega) (by omega) (by omega) (by omega)]
  have hle : W &&& (4294967295 - (2 ^ N - 1) * 2 ^ A) ≤ W := Nat.and_le_left
  rw [Int.toNat_natCast, Int.toNat_natCast, u32_or _ _ (by omega) (by omega) (by omega) (by omega), Int.toNat_natCast, Int.toNat_natCast, put_nat W A N V hV hW hs]
  unfold putI getI
  rw [if_pos hp, eN, eA]
  have hsw := split_word W A N
  have e1 : ((W : Int) / ((2 ^ A : Nat) : Int) % ((2 ^ N : Nat) : Int)) = ((W / 2 ^ A % 2 ^ N : Nat) : Int) := by simp
  rw [e1, ← Int.natCast_mul, ← Int.natCast_mul]
  omega

theorem fits_shr {v n : Int} (h0 : 0 ≤ v) (h1 : v ≤ 4294967295) (hn : 0 ≤ n) : (v / 2 ^ min n.toNat 32 == 0) = fitB v n := by
  unfold fitB
  rw [Bool.eq_iff_iff, beq_iff_eq, decide_eq_true_iff]
  by_cases h : n ≤ 32
  · have e : min n.toNat 32 = n.toNat := by omega
    rw [e]
    show v / pw n = 0 ↔ v < pw n
    constructor
    · intro hz
      have h2 := Int.lt_ediv_add_one_mul_self v (pw_pos n)
      rw [hz] at h2
      omega
    · intro hlt; exact Int.ediv_eq_zero_of_lt h0 hlt
  · have e : min n.toNat 32 = 32 := by omega
    rw [e]
    have hz : v / 2 ^ 32 = 0 := Int.ediv_eq_zero_of_lt h0 (by omega)
    have := pw_ge32 (n := n) (by omega)
    constructor
    · intro _; omega
    · intro _; exact hz
theorem fits_neg {v n : Int} (h0 : 0 ≤ v) (hn : n ≤ 0) : (v == 0) = fitB v n := by
  unfold fitB
  rw [pw_neg hn, Bool.eq_iff_iff, beq_iff_eq, decide_eq_true_iff]
  omega

/-! ### Rows of numbers -/
/-- The sum of the k first numbers. -/
def sumTo (zs : List Int) : Nat → Int
  | 0 => 0
  | k + 1 => sumTo zs k + nth zs k
/-- The numbers of a word's k first pieces. -/
def splitTo (x : Int) (zs : List Int) (k : Nat) : List Int := (List.range k).map fun j => getI x (sumTo zs j) (nth zs j)
theorem splitTo_length (x : Int) (zs : List Int) (k : Nat) : (splitTo x zs k).length = k := by simp [splitTo]
end Go.Proofs.Ytgmbamehmecnlaa.Pk

namespace Go.Proofs.Ytgmbamehmecnlaa.Pk
open Go.RowKit
set_option linter.unusedVariables false
set_option linter.unusedSimpArgs false

set_option maxHeartbeats 400000 in
theorem isWidth_yes (n : Int) (w : World) (h1 : 1 ≤ n) (h2 : n ≤ 32) :
    Calls Try.prog 134 #[.int .i64 n] w fun e w' => e = .returned (.bool true) ∧ w = w' := by
  go_enter Try.func134, Try.ntmps134
  go_wp2
  go_ret
  exact ⟨rfl, rfl⟩

set_option maxHeartbeats 400000 in
theorem isWidth_no (n : Int) (w : World) (h : ¬ (1 ≤ n ∧ n ≤ 32)) :
    Calls Try.prog 134 #[.int .i64 n] w fun e w' => e = .returned (.bool false) ∧ w = w' := by
  by_cases h1 : 1 ≤ n
  · have h2 : ¬ n ≤ 32 := fun h2 => h ⟨h1, h2⟩
    clear h
    go_enter Try.func134, Try.ntmps134
    go_wp2
    go_ret
    exact ⟨rfl, rfl⟩
  · clear h
    go_enter Try.func134, Try.ntmps134
    go_wp2
    go_ret
    exact ⟨rfl, rfl⟩

set_option maxHeartbeats 400000 in
theorem isPiece_yes (a n : Int) (w : World) (hp : pieceB a n = true) :
    Calls Try.prog 124 #[.int .i64 a, .int .i64 n] w fun e w' => e = .returned (.bool true) ∧ w = w' := by
  obtain ⟨h0, h1, h2, h3⟩ := pieceB_yes hp
  clear hp
  go_enter Try.func124, Try.ntmps124
  go_wp2_with (go_at_call 134; refine (isWidth_yes _ _ (by omega) (by omega)).mono ?_; rintro e w' ⟨rfl, rfl⟩)
  go_ret
  exact ⟨rfl, rfl⟩

set_option maxHeartbeats 400000 in
theorem isPiece_no (a n : Int) (w : World) (hp : pieceB a n = false) :
    Calls Try.prog 124 #[.int .i64 a, .int .i64 n] w fun e w' => e = .returned (.bool false) ∧ w = w' := by
  have h := pieceB_no hp
  clear hp
  by_cases hw : 1 ≤ n ∧ n ≤ 32
  · obtain ⟨h1, h2⟩ := hw
    by_cases h0 : 0 ≤ a
    · have h3 : ¬ a ≤ 32 - n := fun h3 => h ⟨h0, h1, h2, h3⟩
      clear h
      go_enter Try.func124, Try.ntmps124
      go_wp2_with (go_at_call 134; refine (isWidth_yes _ _ (by omega) (by omega)).mono ?_; rintro e w' ⟨rfl, rfl⟩)
      go_ret
      exact ⟨ret_bool (decide_eq_false (by omega)), rfl⟩
    · clear h
      go_enter Try.func124, Try.ntmps124
      go_wp2_with (go_at_call 134; refine (isWidth_yes _ _ (by omega) (by omega)).mono ?_; rintro e w' ⟨rfl, rfl⟩)
      go_ret
      exact ⟨rfl, rfl⟩
  · clear h
    have hW : Hid (¬ (1 ≤ n ∧ n ≤ 32)) := hw
    clear hw
    go_enter Try.func124, Try.ntmps124
    go_wp2_with (go_at_call 134; refine (isWidth_no _ _ hW.out).mono ?_; rintro e w' ⟨rfl, rfl⟩)
    go_ret
    exact ⟨rfl, rfl⟩

set_option maxHeartbeats 400000 in
theorem lowOnes_any (n : Int) (w : World) (h1 : 1 ≤ n) (h2 : n ≤ 32) :
    Calls Try.prog 125 #[.int .i64 n] w fun e w' => e = .returned (.int .u32 (pw n - 1)) ∧ w = w' := by
  go_enter Try.func125, Try.ntmps125
  go_wp2
  go_ret
  exact ⟨ret_int (lo_mask h1 h2), rfl⟩

set_option maxHeartbeats 400000 in
theorem fits_any (v n : Int) (w : World) (h0 : 0 ≤ v) (h1 : v ≤ 4294967295) :
    Calls Try.prog 130 #[.int .u32 v, .int .i64 n] w fun e w' => e = .returned (.bool (fitB v n)) ∧ w = w' := by
  by_cases hn : 0 ≤ n
  · go_enter Try.func130, Try.ntmps130
    go_wp2
    go_ret
    exact ⟨ret_bool (fits_shr h0 h1 hn), rfl⟩
  · go_enter Try.func130, Try.ntmps130
    go_wp2
    go_ret
    exact ⟨ret_bool (fits_neg h0 (by omega)), rfl⟩

set_option maxHeartbeats 400000 in
theorem get_yes (x a n : Int) (w : World) (h0 : 0 ≤ x) (h1 : x ≤ 4294967295) (hp : pieceB a n = true) :
    Calls Try.prog 101 #[.int .u32 x, .int .i64 a, .int .i64 n] w fun e w' => e = .returned (.int .u32 (getI x a n)) ∧ ∃ k, w' = w.drewN k := by
  obtain ⟨g0, g1, g2, g3⟩ := pieceB_yes hp
  have HG : Hid (bits .and .u32 (x / 2 ^ a.toNat) (pw n - 1) = getI x a n) := get_and h0 h1 hp
  have HP : Hid (pieceB a n = true) := hp
  clear hp
  go_enter Try.func101, Try.ntmps101
  go_wp2_with (go_at_call 124; refine (isPiece_yes _ _ _ HP.out).mono ?_; rintro e w' ⟨rfl, rfl⟩)
  go_quiet ((go_at_call 125; exact quiet_eq (lowOnes_any _ _ g1 g2)))
  go_wp2
  go_ret
  exact ⟨ret_int HG.out, _, rfl⟩

set_option maxHeartbeats 400000 in
theorem get_no (x a n : Int) (w : World) (hp : pieceB a n = false) :
    Calls Try.prog 101 #[.int .u32 x, .int .i64 a, .int .i64 n] w fun e w' => e = .returned (.int .u32 0) ∧ w = w' := by
  have HP : Hid (pieceB a n = false) := hp
  clear hp
  go_enter Try.func101, Try.ntmps101
  go_wp2_with (go_at_call 124; refine (isPiece_no _ _ _ HP.out).mono ?_; rintro e w' ⟨rfl, rfl⟩)
  go_ret
  exact ⟨rfl, rfl⟩

theorem ret_put {a b c : Int} (h : a = b) : Ending.returned (.tuple #[.int .u32 a, .int .i64 c]) = .returned (.tuple #[.int .u32 b, .int .i64 c]) := by rw [h]

set_option maxHeartbeats 400000 in
theorem put_no (x a n v : Int) (w : World) (hp : pieceB a n = false) :
    Calls Try.prog 111 #[.int .u32 x, .int .i64 a, .int .i64 n, .int .u32 v] w fun e w' => e = .returned (.tuple #[.int .u32 0, .int .i64 2]) ∧ w = w' := by
  have HP : Hid (pieceB a n = false) := hp
  clear hp
  go_enter Try.func111, Try.ntmps111
  go_wp2_with (go_at_call 124; refine (isPiece_no _ _ _ HP.out).mono ?_; rintro e w' ⟨rfl, rfl⟩)
  go_ret2
  exact ⟨rfl, rfl⟩

set_option maxHeartbeats 400000 in
theorem put_big (x a n v : Int) (w : World) (hp : pieceB a n = true) (hv0 : 0 ≤ v) (hv1 : v ≤ 4294967295) (hf : fitB v n = false) :
    Calls Try.prog 111 #[.int .u32 x, .int .i64 a, .int .i64 n, .int .u32 v] w fun e w' => e = .returned (.tuple #[.int .u32 0, .int .i64 15]) ∧ w = w' := by
  have HP : Hid (pieceB a n = true) := hp
  clear hp
  go_enter Try.func111, Try.ntmps111
  go_wp2_with (first | (go_at_call 124; refine (isPiece_yes _ _ _ HP.out).mono ?_; rintro e w' ⟨rfl, rfl⟩) | (go_at_call 130; refine (fits_any _ _ _ hv0 hv1).mono ?_; rintro e w' ⟨rfl, rfl⟩))
  go_ret2
  exact ⟨rfl, rfl⟩

set_option maxHeartbeats 400000 in
theorem put_yes (x a n v : Int) (w : World) (h0 : 0 ≤ x) (h1 : x ≤ 4294967295) (hp : pieceB a n = true) (hv0 : 0 ≤ v) (hv1 : v ≤ 4294967295) (hf : fitB v n = true) :
    Calls Try.prog 111 #[.int .u32 x, .int .i64 a, .int .i64 n, .int .u32 v] w fun e w' => e = .returned (.tuple #[.int .u32 (putI x a n v), .int .i64 0]) ∧ ∃ k, w' = w.drewN k := by
  obtain ⟨g0, g1, g2, g3⟩ := pieceB_yes hp
  have HG : Hid (bits .or .u32 (bits .andNot .u32 x (IntKind.u32.wrap ((pw n - 1) * 2 ^ a.toNat))) (IntKind.u32.wrap (v * 2 ^ a.toNat)) = putI x a n v) := put_or h0 h1 hv0 hp hf
  have HP : Hid (pieceB a n = true) := hp
  clear hp
  go_enter Try.func111, Try.ntmps111
  go_wp2_with (first | (go_at_call 124; refine (isPiece_yes _ _ _ HP.out).mono ?_; rintro e w' ⟨rfl, rfl⟩) | (go_at_call 130; refine (fits_any _ _ _ hv0 hv1).mono ?_; rintro e w' ⟨rfl, rfl⟩))
  go_quiet ((go_at_call 125; exact quiet_eq (lowOnes_any _ _ g1 g2)))
  go_wp2
  go_ret2
  exact ⟨ret_put HG.out, _, rfl⟩

end Go.Proofs.Ytgmbamehmecnlaa.Pk

namespace Go.Proofs.Ytgmbamehmecnlaa.Pk
open Go.RowKit
set_option linter.unusedVariables false
set_option linter.unusedSimpArgs false

end Go.Proofs.Ytgmbamehmecnlaa.Pk

namespace Go.Proofs.Ytgmbamehmecnlaa.Pk
open Go.RowKit
set_option linter.unusedVariables false
set_option linter.unusedSimpArgs false

end Go.Proofs.Ytgmbamehmecnlaa.Pk

namespace Go.Proofs.Ytgmbamehmecnlaa.Pk
open Go.RowKit
set_option linter.unusedVariables false
set_option linter.unusedSimpArgs false

/-! ### The document's -/
end Go.Proofs.Ytgmbamehmecnlaa.Pk

namespace Go.Proofs.Ytgmbamehmecnlaa.Pk
open Go.RowKit
set_option linter.unusedVariables false
set_option linter.unusedSimpArgs false

/-- The pieces so far, and noughts for those still to come. -/
def part (x : Int) (zs : List Int) (k : Nat) : List Value := (splitTo x zs k ++ List.replicate (zs.length - k) 0).map (Value.int .u32)
/-- The end of a Split: the pieces, in memory of its own. -/
def Pieces (x : Int) (zs : List Int) (w : World) (e : Ending) (w' : World) : Prop :=
  ∃ a cap, e = .returned (.tuple #[.slice a zs.length cap, .int .i64 0]) ∧ Row w' .u32 a (splitTo x zs zs.length) ∧ Below w.heap.size w w'
theorem Pieces.mk {x : Int} {zs : List Int} {w w' : World} {v : Value} {B : Nat} {t : TypeId}
    (h : w'.ownsRow B t 1 v zs.length ((splitTo x zs zs.length).map (Value.int .u32))) (hb : Below w.heap.size w w') : Pieces x zs w (.returned (.tuple #[v, .int .i64 0])) w' := by
  have h2 : w'.ownsRow B t 1 v (splitTo x zs zs.length).length ((splitTo x zs zs.length).map (Value.int .u32)) := by rw [splitTo_length]; exact h
  obtain ⟨a, cap, hv, hr⟩ := Row.of_owns h2
  rw [splitTo_length] at hv
  exact ⟨a, cap, by rw [hv], hr, hb⟩

/-! ### The document's -/
end Go.Proofs.Ytgmbamehmecnlaa.Pk

namespace Go.Proofs.Ytgmbamehmecnlaa.Pk
open Go.RowKit
set_option linter.unusedVariables false
set_option linter.unusedSimpArgs false

/-- Put's word, and Put's error. -/
def putV (x a n v : Int) : Int := if pieceB a n = true then (if fitB v n = true then putI x a n v else 0) else 0
def putE (a n v : Int) : Int := if pieceB a n = true then (if fitB v n = true then 0 else 15) else 2
theorem putV_yes {x a n v : Int} (h1 : pieceB a n = true) (h2 : fitB v n = true) : putV x a n v = putI x a n v := by unfold putV; rw [if_pos h1, if_pos h2]
theorem putE_yes {a n v : Int} (h1 : pieceB a n = true) (h2 : fitB v n = true) : putE a n v = 0 := by unfold putE; rw [if_pos h1, if_pos h2]
theorem ret_put2 {a b c d : Int} (h : a = b) (h2 : c = d) : Ending.returned (.tuple #[.int .u32 a, .int .i64 c]) = .returned (.tuple #[.int .u32 b, .int .i64 d]) := by rw [h, h2]

theorem get_any (x a n : Int) (w : World) (h0 : 0 ≤ x) (h1 : x ≤ 4294967295) :
    Calls Try.prog 101 #[.int .u32 x, .int .i64 a, .int .i64 n] w fun e w' => e = .returned (.int .u32 (getI x a n)) ∧ Drw w w' := by
  cases hp : pieceB a n
  · refine (get_no x a n w hp).mono fun e w' ⟨he, hw⟩ => ⟨?_, hw ▸ Drw.refl w⟩
    rw [he]; exact ret_int (by unfold getI; rw [hp]; rfl)
  · exact get_yes x a n w h0 h1 hp

theorem put_any (x a n v : Int) (w : World) (h0 : 0 ≤ x) (h1 : x ≤ 4294967295) (hv0 : 0 ≤ v) (hv1 : v ≤ 4294967295) :
    Calls Try.prog 111 #[.int .u32 x, .int .i64 a, .int .i64 n, .int .u32 v] w fun e w' => e = .returned (.tuple #[.int .u32 (putV x a n v), .int .i64 (putE a n v)]) ∧ Drw w w' := by
  cases hp : pieceB a n
  · refine (put_no x a n v w hp).mono fun e w' ⟨he, hw⟩ => ⟨?_, hw ▸ Drw.refl w⟩
    rw [he]; exact ret_put2 (by unfold putV; rw [hp]; rfl) (by unfold putE; rw [hp]; rfl)
  · cases hf : fitB v n
    · refine (put_big x a n v w hp hv0 hv1 hf).mono fun e w' ⟨he, hw⟩ => ⟨?_, hw ▸ Drw.refl w⟩
      rw [he]; exact ret_put2 (by unfold putV; rw [hp, hf]; rfl) (by unfold putE; rw [hp, hf]; rfl)
    · refine (put_yes x a n v w h0 h1 hp hv0 hv1 hf).mono fun e w' ⟨he, hw⟩ => ⟨?_, hw⟩
      rw [he]; exact ret_put2 (putV_yes hp hf).symm (putE_yes hp hf).symm

open Classical in
open Classical in
open Classical in
open Classical in
/-! ### What is put is got -/
end Go.Proofs.Ytgmbamehmecnlaa.Pk
