/-
  What the document's functions on pieces of words return, whatever they are given: the same as the program's.
-/
import Derived.Test.YtmhehnckjmoikaaPack
namespace Go.Proofs.Ytmhehnckjmoikaa.Pk
open Go.RowKit
set_option linter.unusedVariables false
set_option linter.unusedSimpArgs false

/-- 2 to the n, n no more than 32. -/
def pw32 (n : Int) : Int := pw (min n 32)
theorem pw32_le {n : Int} (h : n ≤ 32) : pw32 n = pw n := by unfold pw32; rw [show min n 32 = n by omega]
theorem pw32_bd (n : Int) : 1 ≤ pw32 n ∧ pw32 n ≤ 4294967296 := by
  unfold pw32
  have := pw_pos (min n 32)
  have := pw_le32 (n := min n 32) (by omega)
  omega

set_option maxHeartbeats 400000 in
theorem power_any (n : Int) (w : World) (hlo : -9223372036854775808 ≤ n) (hhi : n ≤ 9223372036854775807) :
    Calls Try.prog 25 #[.int .i64 n] w fun e w' => e = .returned (.int .u64 (pw32 n)) ∧ w = w' := by
  go_enter Try.func25, Try.ntmps25
  go_wp2
  go_loop [3, 4] (fun p i => ∃ k : Nat, k ≤ 32 ∧ (k : Int) ≤ max n 0 ∧ i = .int .i64 k ∧ p = .int .u64 (pw k)) (fun _ i => 32 - (intOf i).toNat)
  case atStart => exact ⟨0, Nat.zero_le _, by omega, rfl, rfl⟩
  case round =>
    obtain ⟨k, hk, hkn, rfl, rfl⟩ := hrel
    have hb := pw_le32 (n := (k : Int)) (by omega)
    have hb0 := pw_pos (k : Int)
    have hs := pw_succ (n := (k : Int)) (by omega)
    have HS : Hid (pw ((k : Int) + 1) = 2 * pw k) := hs
    have HF : Hid (n ≤ 32 → n = k → pw32 n = pw k) := fun h e => by rw [pw32_le h, e]
    clear hs
    obtain ⟨y, hy⟩ : ∃ y, y = pw (k : Int) := ⟨_, rfl⟩
    have HY : Hid (y = pw (k : Int)) := hy
    rw [← hy] at hb hb0
    rw [← hy]
    clear hy
    by_cases hn : (k : Int) < n
    · by_cases h32 : k < 32
      · go_wp2
        go_round
        case rel => exact ⟨k + 1, by omega, by omega, by go_num, by rw [show ((k + 1 : Nat) : Int) = (k : Int) + 1 by omega, HS.out, ← HY.out]; go_num⟩
        case measure => simp [intOf]; omega
      · have e : k = 32 := by omega
        have HQ : Hid (y = pw32 n) := by
          show y = pw32 n
          unfold pw32
          rw [HY.out, e, show min n 32 = 32 by omega]; rfl
        subst e
        go_wp2
        go_ret
        exact ⟨ret_int HQ.out, rfl⟩
    · have HQ : Hid (y = pw32 n) := by
        show y = pw32 n
        rw [HY.out, pw32_le (by omega)]
        by_cases h0 : 0 ≤ n
        · rw [show n = k by omega]
        · rw [pw_neg (n := n) (by omega), show k = 0 by omega]; rfl
      go_wp2
      go_ret
      exact ⟨ret_int HQ.out, rfl⟩

set_option maxHeartbeats 400000 in
theorem refFits_any (v n : Int) (w : World) (h0 : 0 ≤ v) (h1 : v ≤ 4294967295) (hlo : -9223372036854775808 ≤ n) (hhi : n ≤ 9223372036854775807) :
    Calls Try.prog 12 #[.int .u32 v, .int .i64 n] w fun e w' => e = .returned (.bool (fitB v n)) ∧ w = w' := by
  have HF : Hid (decide (v < pw32 n) = fitB v n) := by
    show decide (v < pw32 n) = fitB v n
    unfold fitB pw32
    by_cases h : n ≤ 32
    · rw [show min n 32 = n by omega]
    · rw [show min n 32 = 32 by omega, pw_32, decide_eq_true (by omega), decide_eq_true]
      have := pw_ge32 (n := n) (by omega)
      omega
  go_enter Try.func12, Try.ntmps12
  go_wp2_with (go_at_call 25; refine (power_any _ _ hlo hhi).mono ?_; rintro e w' ⟨rfl, rfl⟩)
  go_ret
  exact ⟨ret_bool HF.out, rfl⟩

set_option maxHeartbeats 400000 in
theorem piece_yes (a n : Int) (w : World) (hp : pieceB a n = true) :
    Calls Try.prog 17 #[.int .i64 a, .int .i64 n] w fun e w' => e = .returned (.bool true) ∧ w = w' := by
  obtain ⟨h0, h1, h2, h3⟩ := pieceB_yes hp
  clear hp
  go_enter Try.func17, Try.ntmps17
  go_wp2
  go_ret
  exact ⟨rfl, rfl⟩

set_option maxHeartbeats 400000 in
theorem piece_no (a n : Int) (w : World) (hp : pieceB a n = false) :
    Calls Try.prog 17 #[.int .i64 a, .int .i64 n] w fun e w' => e = .returned (.bool false) ∧ w = w' := by
  have h := pieceB_no hp
  clear hp
  by_cases h0 : 0 ≤ a
  · by_cases h1 : 1 ≤ n
    · by_cases h2 : n ≤ 32
      · have h3 : ¬ a ≤ 32 - n := fun h3 => h ⟨h0, h1, h2, h3⟩
        clear h
        go_enter Try.func17, Try.ntmps17
        go_wp2
        go_ret
        exact ⟨rfl, rfl⟩
      · clear h
        go_enter Try.func17, Try.ntmps17
        go_wp2
        go_ret
        exact ⟨rfl, rfl⟩
    · clear h
      go_enter Try.func17, Try.ntmps17
      go_wp2
      go_ret
      exact ⟨rfl, rfl⟩
  · clear h
    go_enter Try.func17, Try.ntmps17
    go_wp2
    go_ret
    exact ⟨rfl, rfl⟩

set_option maxHeartbeats 400000 in
theorem refGet_no (x a n : Int) (w : World) (hp : pieceB a n = false) :
    Calls Try.prog 10 #[.int .u32 x, .int .i64 a, .int .i64 n] w fun e w' => e = .returned (.int .u32 0) ∧ w = w' := by
  have HP : Hid (pieceB a n = false) := hp
  clear hp
  go_enter Try.func10, Try.ntmps10
  go_wp2_with (go_at_call 17; refine (piece_no _ _ _ HP.out).mono ?_; rintro e w' ⟨rfl, rfl⟩)
  go_ret
  exact ⟨rfl, rfl⟩

set_option maxHeartbeats 400000 in
theorem refGet_yes (x a n : Int) (w : World) (h0 : 0 ≤ x) (h1 : x ≤ 4294967295) (hp : pieceB a n = true) :
    Calls Try.prog 10 #[.int .u32 x, .int .i64 a, .int .i64 n] w fun e w' => e = .returned (.int .u32 (getI x a n)) ∧ ∃ k, w' = w.drewN k := by
  obtain ⟨g0, g1, g2, g3⟩ := pieceB_yes hp
  have HG : Hid (x / pw32 a % pw32 n = getI x a n) := by
    show x / pw32 a % pw32 n = getI x a n
    unfold getI; rw [if_pos hp, pw32_le (by omega), pw32_le (by omega)]
  obtain ⟨b1, b2⟩ := pw32_bd a
  obtain ⟨c1, c2⟩ := pw32_bd n
  have d1 : 0 ≤ x / pw32 a := Int.ediv_nonneg h0 (by omega)
  have d2 : x / pw32 a ≤ x := Int.ediv_le_self _ h0
  have d3 : 0 ≤ x / pw32 a % pw32 n := Int.emod_nonneg _ (by omega)
  have d4 : x / pw32 a % pw32 n < pw32 n := Int.emod_lt_of_pos _ (by omega)
  have HP : Hid (pieceB a n = true) := hp
  clear hp
  go_enter Try.func10, Try.ntmps10
  go_wp2_with (go_at_call 17; refine (piece_yes _ _ _ HP.out).mono ?_; rintro e w' ⟨rfl, rfl⟩)
  go_quiet ((go_at_call 25; exact quiet_eq (power_any _ _ (by omega) (by omega))))
  go_wp2
  go_ret
  exact ⟨ret_int HG.out, _, rfl⟩

set_option maxHeartbeats 400000 in
theorem refPut_no (x a n v : Int) (w : World) (hp : pieceB a n = false) :
    Calls Try.prog 16 #[.int .u32 x, .int .i64 a, .int .i64 n, .int .u32 v] w fun e w' => e = .returned (.tuple #[.int .u32 0, .int .i64 2]) ∧ w = w' := by
  have HP : Hid (pieceB a n = false) := hp
  clear hp
  go_enter Try.func16, Try.ntmps16
  go_wp2_with (go_at_call 17; refine (piece_no _ _ _ HP.out).mono ?_; rintro e w' ⟨rfl, rfl⟩)
  go_ret2
  exact ⟨rfl, rfl⟩

set_option maxHeartbeats 400000 in
theorem refPut_big (x a n v : Int) (w : World) (hp : pieceB a n = true) (hv0 : 0 ≤ v) (hv1 : v ≤ 4294967295) (hf : fitB v n = false) :
    Calls Try.prog 16 #[.int .u32 x, .int .i64 a, .int .i64 n, .int .u32 v] w fun e w' => e = .returned (.tuple #[.int .u32 0, .int .i64 15]) ∧ w = w' := by
  obtain ⟨g0, g1, g2, g3⟩ := pieceB_yes hp
  have HP : Hid (pieceB a n = true) := hp
  clear hp
  go_enter Try.func16, Try.ntmps16
  go_wp2_with (first | (go_at_call 17; refine (piece_yes _ _ _ HP.out).mono ?_; rintro e w' ⟨rfl, rfl⟩) | (go_at_call 12; refine (refFits_any _ _ _ hv0 hv1 (by omega) (by omega)).mono ?_; rintro e w' ⟨rfl, rfl⟩))
  go_ret2
  exact ⟨rfl, rfl⟩

set_option maxHeartbeats 400000 in
theorem refPut_yes (x a n v : Int) (w : World) (h0 : 0 ≤ x) (h1 : x ≤ 4294967295) (hp : pieceB a n = true) (hv0 : 0 ≤ v) (hv1 : v ≤ 4294967295) (hf : fitB v n = true) :
    Calls Try.prog 16 #[.int .u32 x, .int .i64 a, .int .i64 n, .int .u32 v] w fun e w' => e = .returned (.tuple #[.int .u32 (putI x a n v), .int .i64 0]) ∧ ∃ k, w' = w.drewN k := by
  obtain ⟨g0, g1, g2, g3⟩ := pieceB_yes hp
  have hpa : pw32 a = pw a := pw32_le (by omega)
  obtain ⟨m1, m2⟩ := getI_mul (w := x) (a := a) (n := n) h0
  obtain ⟨m3, m4⟩ := fit_mul hv0 hp hf
  have m5 := putI_lo h0 hv0 hp
  have m6 := putI_hi h0 h1 hv0 hp hf
  have HQ : Hid (x - getI x a n * pw32 a + v * pw32 a = putI x a n v) := by
    show x - getI x a n * pw32 a + v * pw32 a = putI x a n v
    rw [hpa]; rfl
  unfold putI at m5 m6
  rw [← hpa] at m1 m2 m3 m4 m5 m6
  clear hpa
  have m7 := getI_lo (w := x) (a := a) (n := n) h0
  have m8 := getI_hi (w := x) (a := a) (n := n) h0 h1
  have HP : Hid (pieceB a n = true) := hp
  have HF : Hid (fitB v n = true) := hf
  clear hp
  go_enter Try.func16, Try.ntmps16
  go_wp2_with (first | (go_at_call 17; refine (piece_yes _ _ _ HP.out).mono ?_; rintro e w' ⟨rfl, rfl⟩) | (go_at_call 12; refine (refFits_any _ _ _ hv0 hv1 (by omega) (by omega)).mono ?_; rintro e w' ⟨rfl, rfl⟩) | (go_at_call 10; refine (refGet_yes _ _ _ _ h0 h1 HP.out).mono ?_; rintro e w' ⟨rfl, k, rfl⟩) | (go_at_call 25; refine (power_any _ _ (by omega) (by omega)).mono ?_; rintro e w' ⟨rfl, rfl⟩))
  go_ret2
  exact ⟨ret_put HQ.out, _, rfl⟩

end Go.Proofs.Ytmhehnckjmoikaa.Pk
