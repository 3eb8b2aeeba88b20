/-
  What the functions of package pack that take slices return, and the document's.
-/
import Derived.Test.YtmhehnckjmoikaaPack
import Derived.Test.YtmhehnckjmoikaaRefPack
namespace Go.Proofs.Ytmhehnckjmoikaa.Pk
open Go.RowKit
set_option linter.unusedVariables false
set_option linter.unusedSimpArgs false

theorem ret_ib {a b : Int} {c : Bool} (h : a = b) : Ending.returned (.tuple #[.int .i64 a, .bool c]) = .returned (.tuple #[.int .i64 b, .bool c]) := by rw [h]

set_option maxHeartbeats 400000 in
theorem together_yes (a : Option Addr) (cap : Nat) (zs : List Int) (w : World) (hrow : Row w .i64 a zs) (hr : rightTo zs zs.length) :
    Calls Try.prog 27 #[.slice a zs.length cap] w fun e w' => e = .returned (.tuple #[.int .i64 (sumTo zs zs.length), .bool true]) ∧ w = w' := by
  have hl : (zs.length : Int) ≤ 32 := by have := rightTo_bd hr; omega
  go_enter Try.func27, Try.ntmps27
  go_wp2
  go_loop [4, 9] (fun t i => ∃ k : Nat, k ≤ zs.length ∧ i = .int .i64 k ∧ t = .int .i64 (sumTo zs k)) (fun _ i => zs.length - (intOf i).toNat)
  case atStart => exact ⟨0, Nat.zero_le _, rfl, rfl⟩
  case round =>
    obtain ⟨k, hk, rfl, rfl⟩ := hrel
    by_cases hlt : k < zs.length
    · obtain ⟨b, off, rfl, hb, hc⟩ := hrow k hlt
      obtain ⟨h1, h2⟩ := hr k hlt
      obtain ⟨h3, h4⟩ := rightTo_bd (rightTo_mono hr (Nat.le_of_lt hlt))
      have HS : Hid (sumTo zs (k + 1) = sumTo zs k + nth zs k) := sumTo_succ zs k
      go_wp2_with (go_at_call 29; refine (isWidth_yes _ _ (by omega) (by omega)).mono ?_; rintro e w' ⟨rfl, rfl⟩)
      go_round
      case rel => exact ⟨k + 1, by omega, by go_num, by rw [HS.out]⟩
      case measure => simp [intOf]; omega
    · have e : k = zs.length := by omega
      have HE : Hid (sumTo zs k = sumTo zs zs.length) := by rw [e]; exact rfl
      clear e
      go_wp2
      go_ret2
      exact ⟨ret_ib HE.out, rfl⟩

set_option maxHeartbeats 400000 in
theorem together_no (a : Option Addr) (cap : Nat) (zs : List Int) (w : World) (hrow : Row w .i64 a zs) (hr : ¬ rightTo zs zs.length) :
    Calls Try.prog 27 #[.slice a zs.length cap] w fun e w' => e = .returned (.tuple #[.int .i64 0, .bool false]) ∧ w = w' := by
  have HR : Hid (¬ rightTo zs zs.length) := hr
  clear hr
  go_enter Try.func27, Try.ntmps27
  go_wp2
  go_loop [4, 9] (fun t i => ∃ k : Nat, k ≤ zs.length ∧ i = .int .i64 k ∧ t = .int .i64 (sumTo zs k) ∧ rightTo zs k) (fun _ i => zs.length - (intOf i).toNat)
  case atStart => exact ⟨0, Nat.zero_le _, rfl, rfl, rightTo_zero _⟩
  case round =>
    obtain ⟨k, hk, rfl, rfl, hok⟩ := hrel
    have hlt : k < zs.length := by
      by_cases h : k < zs.length
      · exact h
      · exact absurd (show rightTo zs zs.length by rw [show zs.length = k by omega]; exact hok) HR.out
    obtain ⟨b, off, rfl, hb, hc⟩ := hrow k hlt
    obtain ⟨h3, h4⟩ := rightTo_bd hok
    by_cases hw : 1 ≤ nth zs k ∧ nth zs k ≤ 32
    · obtain ⟨h1, h2⟩ := hw
      by_cases hs : nth zs k ≤ 32 - sumTo zs k
      · have HS : Hid (sumTo zs (k + 1) = sumTo zs k + nth zs k) := sumTo_succ zs k
        have hok' := rightTo_succ hok h1 hs
        go_wp2_with (go_at_call 29; refine (isWidth_yes _ _ (by omega) (by omega)).mono ?_; rintro e w' ⟨rfl, rfl⟩)
        go_round
        case rel => exact ⟨k + 1, by omega, by go_num, by rw [HS.out], hok'⟩
        case measure => simp [intOf]; omega
      · have hs' : 32 - nth zs k < sumTo zs k := by omega
        go_wp2_with (go_at_call 29; refine (isWidth_yes _ _ (by omega) (by omega)).mono ?_; rintro e w' ⟨rfl, rfl⟩)
        go_ret2
        exact ⟨rfl, rfl⟩
    · have HW : Hid (¬ (1 ≤ nth zs k ∧ nth zs k ≤ 32)) := hw
      clear hw
      go_wp2_with (go_at_call 29; refine (isWidth_no _ _ HW.out).mono ?_; rintro e w' ⟨rfl, rfl⟩)
      go_ret2
      exact ⟨rfl, rfl⟩

set_option maxHeartbeats 400000 in
theorem right_yes (a : Option Addr) (cap : Nat) (zs : List Int) (w : World) (hrow : Row w .i64 a zs) (hr : rightTo zs zs.length) :
    Calls Try.prog 28 #[.slice a zs.length cap] w fun e w' => e = .returned (.bool true) ∧ w = w' := by
  have hl : (zs.length : Int) ≤ 32 := by have := rightTo_bd hr; omega
  go_enter Try.func28, Try.ntmps28
  go_wp2
  go_loop [3, 4] (fun t i => ∃ k : Nat, k ≤ zs.length ∧ i = .int .i64 k ∧ t = .int .i64 (sumTo zs k)) (fun _ i => zs.length - (intOf i).toNat)
  case atStart => exact ⟨0, Nat.zero_le _, rfl, rfl⟩
  case round =>
    obtain ⟨k, hk, rfl, rfl⟩ := hrel
    by_cases hlt : k < zs.length
    · obtain ⟨b, off, rfl, hb, hc⟩ := hrow k hlt
      obtain ⟨h1, h2⟩ := hr k hlt
      obtain ⟨h3, h4⟩ := rightTo_bd (rightTo_mono hr (Nat.le_of_lt hlt))
      have HS : Hid (sumTo zs (k + 1) = sumTo zs k + nth zs k) := sumTo_succ zs k
      go_wp2
      go_round
      case rel => exact ⟨k + 1, by omega, by go_num, by rw [HS.out]⟩
      case measure => simp [intOf]; omega
    · go_wp2
      go_ret
      exact ⟨rfl, rfl⟩

set_option maxHeartbeats 400000 in
theorem right_no (a : Option Addr) (cap : Nat) (zs : List Int) (w : World) (hrow : Row w .i64 a zs) (hl : (zs.length : Int) ≤ 9223372036854775807) (hr : ¬ rightTo zs zs.length) :
    Calls Try.prog 28 #[.slice a zs.length cap] w fun e w' => e = .returned (.bool false) ∧ w = w' := by
  have HR : Hid (¬ rightTo zs zs.length) := hr
  clear hr
  go_enter Try.func28, Try.ntmps28
  go_wp2
  go_loop [3, 4] (fun t i => ∃ k : Nat, k ≤ zs.length ∧ i = .int .i64 k ∧ t = .int .i64 (sumTo zs k) ∧ rightTo zs k) (fun _ i => zs.length - (intOf i).toNat)
  case atStart => exact ⟨0, Nat.zero_le _, rfl, rfl, rightTo_zero _⟩
  case round =>
    obtain ⟨k, hk, rfl, rfl, hok⟩ := hrel
    have hlt : k < zs.length := by
      by_cases h : k < zs.length
      · exact h
      · exact absurd (show rightTo zs zs.length by rw [show zs.length = k by omega]; exact hok) HR.out
    obtain ⟨b, off, rfl, hb, hc⟩ := hrow k hlt
    obtain ⟨h3, h4⟩ := rightTo_bd hok
    by_cases h1 : 1 ≤ nth zs k
    · by_cases hs : nth zs k ≤ 32 - sumTo zs k
      · have HS : Hid (sumTo zs (k + 1) = sumTo zs k + nth zs k) := sumTo_succ zs k
        have hok' := rightTo_succ hok h1 hs
        go_wp2
        go_round
        case rel => exact ⟨k + 1, by omega, by go_num, by rw [HS.out], hok'⟩
        case measure => simp [intOf]; omega
      · have hs' : 32 - sumTo zs k < nth zs k := by omega
        go_wp2
        go_ret
        exact ⟨rfl, rfl⟩
    · go_wp2
      go_ret
      exact ⟨rfl, rfl⟩

end Go.Proofs.Ytmhehnckjmoikaa.Pk
