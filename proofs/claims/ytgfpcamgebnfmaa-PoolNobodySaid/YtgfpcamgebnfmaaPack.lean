/-
  What the functions of package pack that take no slices return, whatever they are given.
-/
import Derived.Test.YtgfpcamgebnfmaaProg
import Derived.Test.YtgfpcamgebnfmaaPkMath
import Derived.WalkKit
import Derived.WalkSpells
import Derived.WalkLawsBesides
import Derived.Deep.QuietTactic
import Derived.BigQuiet
namespace Go.Proofs.Ytgfpcamgebnfmaa.Pk
open Go.RowKit
set_option linter.unusedVariables false
set_option linter.unusedSimpArgs false

set_option maxHeartbeats 400000 in
theorem isWidth_yes (n : Int) (w : World) (h1 : 1 ≤ n) (h2 : n ≤ 32) :
    Calls Try.prog 77 #[.int .i64 n] w fun e w' => e = .returned (.bool true) ∧ w = w' := by
  go_enter Try.func77, Try.ntmps77
  go_wp2
  go_ret
  exact ⟨rfl, rfl⟩

set_option maxHeartbeats 400000 in
theorem isWidth_no (n : Int) (w : World) (h : ¬ (1 ≤ n ∧ n ≤ 32)) :
    Calls Try.prog 77 #[.int .i64 n] w fun e w' => e = .returned (.bool false) ∧ w = w' := by
  by_cases h1 : 1 ≤ n
  · have h2 : ¬ n ≤ 32 := fun h2 => h ⟨h1, h2⟩
    clear h
    go_enter Try.func77, Try.ntmps77
    go_wp2
    go_ret
    exact ⟨rfl, rfl⟩
  · clear h
    go_enter Try.func77, Try.ntmps77
    go_wp2
    go_ret
    exact ⟨rfl, rfl⟩

set_option maxHeartbeats 400000 in
theorem isPiece_yes (a n : Int) (w : World) (hp : pieceB a n = true) :
    Calls Try.prog 70 #[.int .i64 a, .int .i64 n] w fun e w' => e = .returned (.bool true) ∧ w = w' := by
  obtain ⟨h0, h1, h2, h3⟩ := pieceB_yes hp
  clear hp
  go_enter Try.func70, Try.ntmps70
  go_wp2_with (go_at_call 77; refine (isWidth_yes _ _ (by omega) (by omega)).mono ?_; rintro e w' ⟨rfl, rfl⟩)
  go_ret
  exact ⟨rfl, rfl⟩

set_option maxHeartbeats 400000 in
theorem isPiece_no (a n : Int) (w : World) (hp : pieceB a n = false) :
    Calls Try.prog 70 #[.int .i64 a, .int .i64 n] w fun e w' => e = .returned (.bool false) ∧ w = w' := by
  have h := pieceB_no hp
  clear hp
  by_cases hw : 1 ≤ n ∧ n ≤ 32
  · obtain ⟨h1, h2⟩ := hw
    by_cases h0 : 0 ≤ a
    · have h3 : ¬ a ≤ 32 - n := fun h3 => h ⟨h0, h1, h2, h3⟩
      clear h
      go_enter Try.func70, Try.ntmps70
      go_wp2_with (go_at_call 77; refine (isWidth_yes _ _ (by omega) (by omega)).mono ?_; rintro e w' ⟨rfl, rfl⟩)
      go_ret
      exact ⟨ret_bool (decide_eq_false (by omega)), rfl⟩
    · clear h
      go_enter Try.func70, Try.ntmps70
      go_wp2_with (go_at_call 77; refine (isWidth_yes _ _ (by omega) (by omega)).mono ?_; rintro e w' ⟨rfl, rfl⟩)
      go_ret
      exact ⟨rfl, rfl⟩
  · clear h
    have hW : Hid (¬ (1 ≤ n ∧ n ≤ 32)) := hw
    clear hw
    go_enter Try.func70, Try.ntmps70
    go_wp2_with (go_at_call 77; refine (isWidth_no _ _ hW.out).mono ?_; rintro e w' ⟨rfl, rfl⟩)
    go_ret
    exact ⟨rfl, rfl⟩

set_option maxHeartbeats 400000 in
theorem lowOnes_any (n : Int) (w : World) (h1 : 1 ≤ n) (h2 : n ≤ 32) :
    Calls Try.prog 71 #[.int .i64 n] w fun e w' => e = .returned (.int .u32 (pw n - 1)) ∧ w = w' := by
  go_enter Try.func71, Try.ntmps71
  go_wp2
  go_ret
  exact ⟨ret_int (lo_mask h1 h2), rfl⟩

set_option maxHeartbeats 400000 in
theorem get_yes (x a n : Int) (w : World) (h0 : 0 ≤ x) (h1 : x ≤ 4294967295) (hp : pieceB a n = true) :
    Calls Try.prog 54 #[.int .u32 x, .int .i64 a, .int .i64 n] w fun e w' => e = .returned (.int .u32 (getI x a n)) ∧ ∃ k, w' = w.drewN k := by
  obtain ⟨g0, g1, g2, g3⟩ := pieceB_yes hp
  have HG : Hid (bits .and .u32 (x / 2 ^ a.toNat) (pw n - 1) = getI x a n) := get_and h0 h1 hp
  have HP : Hid (pieceB a n = true) := hp
  clear hp
  go_enter Try.func54, Try.ntmps54
  go_wp2_with (go_at_call 70; refine (isPiece_yes _ _ _ HP.out).mono ?_; rintro e w' ⟨rfl, rfl⟩)
  go_quiet ((go_at_call 71; exact quiet_eq (lowOnes_any _ _ g1 g2)))
  go_wp2
  go_ret
  exact ⟨ret_int HG.out, _, rfl⟩

set_option maxHeartbeats 400000 in
theorem get_no (x a n : Int) (w : World) (hp : pieceB a n = false) :
    Calls Try.prog 54 #[.int .u32 x, .int .i64 a, .int .i64 n] w fun e w' => e = .returned (.int .u32 0) ∧ w = w' := by
  have HP : Hid (pieceB a n = false) := hp
  clear hp
  go_enter Try.func54, Try.ntmps54
  go_wp2_with (go_at_call 70; refine (isPiece_no _ _ _ HP.out).mono ?_; rintro e w' ⟨rfl, rfl⟩)
  go_ret
  exact ⟨rfl, rfl⟩

theorem ret_put {a b c : Int} (h : a = b) : Ending.returned (.tuple #[.int .u32 a, .int .i64 c]) = .returned (.tuple #[.int .u32 b, .int .i64 c]) := by rw [h]

end Go.Proofs.Ytgfpcamgebnfmaa.Pk
