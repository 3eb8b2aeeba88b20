/-
  What the functions of package ratio return, and the document's.
-/
import Derived.Test.YtgoenaohpfjljaaProg
import Derived.Test.YtgoenaohpfjljaaRatMath
import Derived.IntWalk
namespace Go.Proofs.Ytgoenaohpfjljaa.Pk
open Go.RowKit
set_option linter.unusedVariables false
set_option linter.unusedSimpArgs false

set_option maxHeartbeats 400000 in
theorem clamp_any (n lo hi : Int) (w : World) :
    Calls Try.prog 9 #[.int .i64 n, .int .i64 lo, .int .i64 hi] w fun e w' => e = .returned (.int .i64 (clampI n lo hi)) ∧ w = w' := by
  by_cases h1 : hi < n
  · go_enter Try.func9, Try.ntmps9
    go_wp2
    go_ret
    exact ⟨ret_int (by unfold clampI; rw [if_pos h1]), rfl⟩
  · by_cases h2 : n < lo
    · go_enter Try.func9, Try.ntmps9
      go_wp2
      go_ret
      exact ⟨ret_int (by unfold clampI; rw [if_neg (by omega), if_pos (by omega)]), rfl⟩
    · go_enter Try.func9, Try.ntmps9
      go_wp2
      go_ret
      exact ⟨ret_int (by unfold clampI; rw [if_neg (by omega), if_neg (by omega)]), rfl⟩

set_option maxHeartbeats 400000 in
theorem bounded_any (n : Int) (w : World) :
    Calls Try.prog 21 #[.int .i64 n] w fun e w' => e = .returned (.int .i64 (cnt n)) ∧ w = w' := by
  go_enter Try.func21, Try.ntmps21
  go_wp2_with fail
  refine (clamp_any _ _ _ _).mono ?_
  rintro e w1 ⟨rfl, rfl⟩
  go_wp2_with fail
  go_ret
  exact ⟨rfl, rfl⟩

set_option maxHeartbeats 400000 in
theorem divisor_any (n : Int) (w : World) :
    Calls Try.prog 23 #[.int .i64 n] w fun e w' => e = .returned (.int .i64 (byI n)) ∧ w = w' := by
  have hb := cnt_bd n
  by_cases h : cnt n < 1
  all_goals
    go_enter Try.func23, Try.ntmps23
    go_wp2_with fail
    refine (bounded_any _ _).mono ?_
    rintro e w1 ⟨rfl, rfl⟩
    go_wp2_with fail
    go_ret
    exact ⟨ret_int (by rw [byI_max]; omega), rfl⟩

set_option maxHeartbeats 400000 in
theorem times_any (a b : Int) (w : World) (ha : 0 ≤ a) (ha2 : a ≤ 1125899906842624) (hb : 0 ≤ b) (hb2 : b ≤ 1125899906842624) :
    Calls Try.prog 22 #[.int .i64 a, .int .i64 b] w fun e w' => e = .returned (.int .i64 (timesI a b)) ∧ w = w' := by
  by_cases h0 : 0 < b
  · by_cases h1 : 1125899906842624 / b < a
    · go_enter Try.func22, Try.ntmps22
      go_wp2
      go_ret
      exact ⟨ret_int (by unfold timesI; rw [if_pos ⟨h0, h1⟩]), rfl⟩
    · have e : timesI a b = a * b := by unfold timesI; rw [if_neg (fun h => h1 h.2)]
      have h2 := times_bd ha hb ha2 hb2
      rw [e] at h2
      have E := Lib.hid e
      clear e
      go_enter Try.func22, Try.ntmps22
      go_wp2
      go_ret
      exact ⟨ret_int (by rw [E.out]), rfl⟩
  · have h1 : b = 0 := by omega
    subst h1
    go_enter Try.func22, Try.ntmps22
    go_wp2
    go_ret
    exact ⟨ret_int (by unfold timesI; rw [if_neg (by omega)]; simp), rfl⟩

set_option maxHeartbeats 400000 in
theorem add_any (a : Option Addr) (cap : Nat) (zs : List Int) (w : World) (hrow : Row w .i64 a zs) (hlen : (zs.length : Int) ≤ 9223372036854775807) :
    Calls Try.prog 10 #[.slice a zs.length cap] w fun e w' => e = .returned (.int .i64 (addL zs)) ∧ w = w' := by
  go_enter Try.func10, Try.ntmps10
  go_wp2
  go_loop [3, 8] (fun t i => ∃ k : Nat, k ≤ zs.length ∧ i = .int .i64 k ∧ t = .int .i64 (addTo zs k)) (fun _ i => zs.length - (intOf i).toNat)
  case atStart => exact ⟨0, Nat.zero_le _, rfl, rfl⟩
  case round =>
    obtain ⟨k, hk, rfl, rfl⟩ := hrel
    have h1 := addTo_bd zs k
    have h2 := cnt_bd (nth zs k)
    by_cases hlt : k < zs.length
    · obtain ⟨b, off, rfl, hb, hc⟩ := hrow k hlt
      have HS := Lib.hid (addTo_succ hlt)
      go_wp2_with fail
      refine (bounded_any _ _).mono ?_
      rintro e w1 ⟨rfl, rfl⟩
      go_wp2_with fail
      refine (bounded_any _ _).mono ?_
      rintro e w1 ⟨rfl, rfl⟩
      go_wp2_with fail
      go_round
      case rel => exact ⟨k + 1, by omega, by go_num, by rw [HS.out]⟩
      case measure => simp [intOf]; omega
    · have e : k = zs.length := by omega
      have HE : Hid (addTo zs k = addL zs) := by rw [e, addTo_all]; exact rfl
      clear e
      go_wp2
      go_ret
      exact ⟨ret_int HE.out, rfl⟩

set_option maxHeartbeats 400000 in
theorem mul_any (a : Option Addr) (cap : Nat) (zs : List Int) (w : World) (hrow : Row w .i64 a zs) (hlen : (zs.length : Int) ≤ 9223372036854775807) :
    Calls Try.prog 12 #[.slice a zs.length cap] w fun e w' => e = .returned (.int .i64 (mulL zs)) ∧ w = w' := by
  go_enter Try.func12, Try.ntmps12
  go_wp2
  go_loop [3, 8] (fun t i => ∃ k : Nat, k ≤ zs.length ∧ i = .int .i64 k ∧ t = .int .i64 (mulTo zs k)) (fun _ i => zs.length - (intOf i).toNat)
  case atStart => exact ⟨0, Nat.zero_le _, rfl, rfl⟩
  case round =>
    obtain ⟨k, hk, rfl, rfl⟩ := hrel
    have h1 := mulTo_bd zs k
    have h2 := cnt_bd (nth zs k)
    by_cases hlt : k < zs.length
    · obtain ⟨b, off, rfl, hb, hc⟩ := hrow k hlt
      have HS := Lib.hid (mulTo_succ hlt)
      go_wp2_with fail
      refine (bounded_any _ _).mono ?_
      rintro e w1 ⟨rfl, rfl⟩
      go_wp2_with fail
      refine (times_any _ _ _ h1.1 h1.2 h2.1 h2.2).mono ?_
      rintro e w1 ⟨rfl, rfl⟩
      go_wp2_with fail
      go_round
      case rel => exact ⟨k + 1, by omega, by go_num, by rw [HS.out]⟩
      case measure => simp [intOf]; omega
    · have e : k = zs.length := by omega
      have HE : Hid (mulTo zs k = mulL zs) := by rw [e, mulTo_all]; exact rfl
      clear e
      go_wp2
      go_ret
      exact ⟨ret_int HE.out, rfl⟩

set_option maxHeartbeats 400000 in
theorem down_any (a b : Int) (w : World) :
    Calls Try.prog 14 #[.int .i64 a, .int .i64 b] w fun e w' => e = .returned (.int .i64 (downI a b)) ∧ w = w' := by
  have h1 := cnt_bd a
  have h2 := byI_bd b
  go_enter Try.func14, Try.ntmps14
  go_wp2_with (first | (go_at_call 21; refine (bounded_any _ _).mono ?_; rintro e w' ⟨rfl, rfl⟩) | (go_at_call 23; refine (divisor_any _ _).mono ?_; rintro e w' ⟨rfl, rfl⟩))
  go_ret
  exact ⟨ret_int rfl, rfl⟩

set_option maxHeartbeats 400000 in
theorem up_any (a b : Int) (w : World) :
    Calls Try.prog 16 #[.int .i64 a, .int .i64 b] w fun e w' => e = .returned (.int .i64 (upI a b)) ∧ w = w' := by
  have h1 := cnt_bd a
  have h2 := byI_bd b
  go_enter Try.func16, Try.ntmps16
  go_wp2_with (first | (go_at_call 21; refine (bounded_any _ _).mono ?_; rintro e w' ⟨rfl, rfl⟩) | (go_at_call 23; refine (divisor_any _ _).mono ?_; rintro e w' ⟨rfl, rfl⟩))
  go_ret
  exact ⟨ret_int rfl, rfl⟩

theorem bne_of {a b : Int} (h : a ≠ b) : (a == b) = false := by rw [beq_eq_false_iff_ne]; exact h

set_option maxHeartbeats 400000 in
theorem least_any (t s : Int) (w : World) :
    Calls Try.prog 18 #[.int .i64 t, .int .i64 s] w fun e w' => e = .returned (.int .i64 (leastI t s)) ∧ w = w' := by
  by_cases h1 : cnt t = 0
  · have E : Hid (leastI t s = 1) := Lib.hid (by unfold leastI; rw [if_pos h1])
    go_enter Try.func18, Try.ntmps18
    go_wp2_with (go_at_call 21; refine (bounded_any _ _).mono ?_; rintro e w' ⟨rfl, rfl⟩)
    go_ret
    exact ⟨ret_int (by rw [E.out]), rfl⟩
  · have g1 := bne_of h1
    by_cases h2 : cnt s = 0
    · have E : Hid (leastI t s = 0) := Lib.hid (by unfold leastI; rw [if_neg h1, if_pos h2])
      go_enter Try.func18, Try.ntmps18
      go_wp2_with (go_at_call 21; refine (bounded_any _ _).mono ?_; rintro e w' ⟨rfl, rfl⟩)
      go_ret
      exact ⟨ret_int (by rw [E.out]), rfl⟩
    · have g2 := bne_of h2
      have E : Hid (leastI t s = upI t s) := Lib.hid (by unfold leastI; rw [if_neg h1, if_neg h2])
      go_enter Try.func18, Try.ntmps18
      go_wp2_with (first | (go_at_call 21; refine (bounded_any _ _).mono ?_; rintro e w' ⟨rfl, rfl⟩) | (go_at_call 16; refine (up_any _ _ _).mono ?_; rintro e w' ⟨rfl, rfl⟩))
      go_ret
      exact ⟨ret_int (by rw [E.out]), rfl⟩

/-! ### The document's -/
set_option maxHeartbeats 400000 in
theorem counts_any (n : Int) (w : World) :
    Calls Try.prog 20 #[.int .i64 n] w fun e w' => e = .returned (.int .i64 (cnt n)) ∧ w = w' := by
  by_cases h1 : n < 0
  · go_enter Try.func20, Try.ntmps20
    go_wp2
    go_ret
    exact ⟨ret_int (by rw [cnt_min]; omega), rfl⟩
  · by_cases h2 : 1125899906842624 < n
    · go_enter Try.func20, Try.ntmps20
      go_wp2
      go_ret
      exact ⟨ret_int (by rw [cnt_min]; omega), rfl⟩
    · go_enter Try.func20, Try.ntmps20
      go_wp2
      go_ret
      exact ⟨ret_int (by rw [cnt_min]; omega), rfl⟩

set_option maxHeartbeats 400000 in
theorem refAdd_any (a : Option Addr) (cap : Nat) (zs : List Int) (w : World) (hrow : Row w .i64 a zs) (hlen : (zs.length : Int) ≤ 9223372036854775807) :
    Calls Try.prog 11 #[.slice a zs.length cap] w fun e w' => e = .returned (.int .i64 (addL zs)) ∧ w = w' := by
  go_enter Try.func11, Try.ntmps11
  go_wp2
  go_loop [3, 4] (fun t i => ∃ k : Nat, k ≤ zs.length ∧ i = .int .i64 k ∧ t = .int .i64 (addTo zs k)) (fun _ i => zs.length - (intOf i).toNat)
  case atStart => exact ⟨0, Nat.zero_le _, rfl, rfl⟩
  case round =>
    obtain ⟨k, hk, rfl, rfl⟩ := hrel
    have h1 := addTo_bd zs k
    have h2 := cnt_bd (nth zs k)
    by_cases hlt : k < zs.length
    · obtain ⟨b, off, rfl, hb, hc⟩ := hrow k hlt
      have HS := Lib.hid (addTo_succ hlt)
      go_wp2_with fail
      refine (counts_any _ _).mono ?_
      rintro e w1 ⟨rfl, rfl⟩
      go_wp2_with fail
      refine (counts_any _ _).mono ?_
      rintro e w1 ⟨rfl, rfl⟩
      go_wp2_with fail
      go_round
      case rel => exact ⟨k + 1, by omega, by go_num, by rw [HS.out]⟩
      case measure => simp [intOf]; omega
    · have e : k = zs.length := by omega
      have HE : Hid (addTo zs k = addL zs) := by rw [e, addTo_all]; exact rfl
      clear e
      go_wp2
      go_ret
      exact ⟨ret_int HE.out, rfl⟩

set_option maxHeartbeats 400000 in
theorem refBy_any (n : Int) (w : World) :
    Calls Try.prog 24 #[.int .i64 n] w fun e w' => e = .returned (.int .i64 (byI n)) ∧ w = w' := by
  by_cases h : cnt n = 0
  · have E : Hid (byI n = 1) := Lib.hid (by unfold byI; rw [if_pos h])
    go_enter Try.func24, Try.ntmps24
    go_wp2_with (go_at_call 20; refine (counts_any _ _).mono ?_; rintro e w' ⟨rfl, rfl⟩)
    go_ret
    exact ⟨ret_int (by rw [E.out]), rfl⟩
  · have E : Hid (byI n = cnt n) := Lib.hid (by unfold byI; rw [if_neg h])
    have g := bne_of h
    go_enter Try.func24, Try.ntmps24
    go_wp2_with (go_at_call 20; refine (counts_any _ _).mono ?_; rintro e w' ⟨rfl, rfl⟩)
    go_ret
    exact ⟨ret_int (by rw [E.out]), rfl⟩

set_option maxHeartbeats 400000 in
theorem refDown_any (a b : Int) (w : World) :
    Calls Try.prog 15 #[.int .i64 a, .int .i64 b] w fun e w' => e = .returned (.int .i64 (downI a b)) ∧ w = w' := by
  have h1 := cnt_bd a
  have h2 := byI_bd b
  go_enter Try.func15, Try.ntmps15
  go_wp2_with (first | (go_at_call 20; refine (counts_any _ _).mono ?_; rintro e w' ⟨rfl, rfl⟩) | (go_at_call 24; refine (refBy_any _ _).mono ?_; rintro e w' ⟨rfl, rfl⟩))
  go_ret
  exact ⟨ret_int rfl, rfl⟩

set_option maxHeartbeats 400000 in
theorem refUp_any (a b : Int) (w : World) :
    Calls Try.prog 17 #[.int .i64 a, .int .i64 b] w fun e w' => e = .returned (.int .i64 (upI a b)) ∧ w = w' := by
  have h1 := cnt_bd a
  have h2 := byI_bd b
  have h3 := downI_bd a b
  obtain ⟨_, h4, h5⟩ := down_rest a b
  by_cases h : 0 < cnt a % byI b
  · have E : Hid (upI a b = downI a b + 1) := Lib.hid (by rw [upI_eq, if_pos h])
    go_enter Try.func17, Try.ntmps17
    go_wp2_with (first | (go_at_call 15; refine (refDown_any _ _ _).mono ?_; rintro e w' ⟨rfl, rfl⟩) | (go_at_call 20; refine (counts_any _ _).mono ?_; rintro e w' ⟨rfl, rfl⟩) | (go_at_call 24; refine (refBy_any _ _).mono ?_; rintro e w' ⟨rfl, rfl⟩))
    go_ret
    exact ⟨ret_int (by rw [E.out]), rfl⟩
  · have E : Hid (upI a b = downI a b) := Lib.hid (by rw [upI_eq, if_neg h])
    go_enter Try.func17, Try.ntmps17
    go_wp2_with (first | (go_at_call 15; refine (refDown_any _ _ _).mono ?_; rintro e w' ⟨rfl, rfl⟩) | (go_at_call 20; refine (counts_any _ _).mono ?_; rintro e w' ⟨rfl, rfl⟩) | (go_at_call 24; refine (refBy_any _ _).mono ?_; rintro e w' ⟨rfl, rfl⟩))
    go_ret
    exact ⟨ret_int (by rw [E.out]), rfl⟩

set_option maxHeartbeats 400000 in
theorem refLeast_any (t s : Int) (w : World) :
    Calls Try.prog 19 #[.int .i64 t, .int .i64 s] w fun e w' => e = .returned (.int .i64 (leastI t s)) ∧ w = w' := by
  by_cases h1 : cnt t = 0
  · have E : Hid (leastI t s = 1) := Lib.hid (by unfold leastI; rw [if_pos h1])
    go_enter Try.func19, Try.ntmps19
    go_wp2_with (go_at_call 20; refine (counts_any _ _).mono ?_; rintro e w' ⟨rfl, rfl⟩)
    go_ret
    exact ⟨ret_int (by rw [E.out]), rfl⟩
  · have g1 := bne_of h1
    by_cases h2 : cnt s = 0
    · have E : Hid (leastI t s = 0) := Lib.hid (by unfold leastI; rw [if_neg h1, if_pos h2])
      go_enter Try.func19, Try.ntmps19
      go_wp2_with (go_at_call 20; refine (counts_any _ _).mono ?_; rintro e w' ⟨rfl, rfl⟩)
      go_ret
      exact ⟨ret_int (by rw [E.out]), rfl⟩
    · have g2 := bne_of h2
      have E : Hid (leastI t s = upI t s) := Lib.hid (by unfold leastI; rw [if_neg h1, if_neg h2])
      go_enter Try.func19, Try.ntmps19
      go_wp2_with (first | (go_at_call 20; refine (counts_any _ _).mono ?_; rintro e w' ⟨rfl, rfl⟩) | (go_at_call 17; refine (refUp_any _ _ _).mono ?_; rintro e w' ⟨rfl, rfl⟩))
      go_ret
      exact ⟨ret_int (by rw [E.out]), rfl⟩

/-! The document's product: nought if one of them is. -/
set_option maxHeartbeats 600000 in
theorem refMul_any (a : Option Addr) (cap : Nat) (zs : List Int) (w : World) (hrow : Row w .i64 a zs) (hlen : (zs.length : Int) ≤ 9223372036854775807) :
    Calls Try.prog 13 #[.slice a zs.length cap] w fun e w' => e = .returned (.int .i64 (mulL zs)) ∧ w = w' := by
  go_enter Try.func13, Try.ntmps13
  go_wp2
  go_loop [3] (fun i => ∃ k : Nat, k ≤ zs.length ∧ i = .int .i64 k ∧ ∀ j, j < k → cnt (nth zs j) ≠ 0) (fun i => zs.length - (intOf i).toNat)
  case atStart => exact ⟨0, Nat.zero_le _, rfl, fun j h => absurd h (Nat.not_lt_zero _)⟩
  case round =>
    obtain ⟨k, hk, rfl, hnz⟩ := hrel
    have HZ := Lib.hid hnz
    clear hnz
    by_cases hlt : k < zs.length
    · obtain ⟨b, off, rfl, hb, hc⟩ := hrow k hlt
      by_cases h0 : cnt (nth zs k) = 0
      · have E : Hid (mulL zs = 0) := Lib.hid (mulL_zero hlt h0)
        go_wp2_with (go_at_call 20; refine (counts_any _ _).mono ?_; rintro e w' ⟨rfl, rfl⟩)
        go_ret
        exact ⟨ret_int (by rw [E.out]), rfl⟩
      · have g0 := bne_of h0
        have H0 := Lib.hid h0
        clear h0
        go_wp2_with (go_at_call 20; refine (counts_any _ _).mono ?_; rintro e w' ⟨rfl, rfl⟩)
        go_round
        case rel => exact ⟨k + 1, by omega, by go_num, fun j hj => by
          by_cases e : j = k
          · subst e; exact H0.out
          · exact HZ.out j (by omega)⟩
        case measure => simp [intOf]; omega
    · have e : k = zs.length := by omega
      have HN : Hid (∀ j, j < zs.length → cnt (nth zs j) ≠ 0) := by rw [← e]; exact HZ
      clear e
      go_wp2
      go_loop [4, 5, 6] (fun t i _ => ∃ k : Nat, k ≤ zs.length ∧ i = .int .i64 k ∧ t = .int .i64 (mulTo zs k)) (fun _ i _ => zs.length - (intOf i).toNat)
      case atStart => exact ⟨0, Nat.zero_le _, rfl, rfl⟩
      case round =>
        obtain ⟨j, hj, rfl, rfl⟩ := hrel
        have h1 := mulTo_bd zs j
        have h2 := cnt_bd (nth zs j)
        by_cases hlt2 : j < zs.length
        · obtain ⟨b, off, rfl, hb, hc⟩ := hrow j hlt2
          have h3 : 1 ≤ cnt (nth zs j) := by have := HN.out j hlt2; omega
          have hs := mulTo_succ hlt2
          have h4 := mulTo_bd zs (j + 1)
          by_cases hq : 1125899906842624 / cnt (nth zs j) < mulTo zs j
          · unfold timesI at hs
            rw [if_pos ⟨by omega, hq⟩] at hs
            have HS := Lib.hid hs
            clear hs
            go_wp2_with (go_at_call 20; refine (counts_any _ _).mono ?_; rintro e w' ⟨rfl, rfl⟩)
            go_round
            case rel => exact ⟨j + 1, by omega, by go_num, by rw [HS.out]⟩
            case measure => simp [intOf]; omega
          · unfold timesI at hs
            rw [if_neg (fun h => hq h.2)] at hs
            rw [hs] at h4
            have HS := Lib.hid hs
            clear hs
            go_wp2_with (go_at_call 20; refine (counts_any _ _).mono ?_; rintro e w' ⟨rfl, rfl⟩)
            go_round
            case rel => exact ⟨j + 1, by omega, by go_num, by rw [HS.out]⟩
            case measure => simp [intOf]; omega
        · have e : j = zs.length := by omega
          have HE : Hid (mulTo zs j = mulL zs) := by rw [e, mulTo_all]; exact rfl
          clear e
          go_wp2
          go_ret
          exact ⟨ret_int HE.out, rfl⟩

end Go.Proofs.Ytgoenaohpfjljaa.Pk
