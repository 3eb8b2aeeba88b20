/-
  Layer 7: the chapter's examples hold; what is too wide to look at.
-/
import Derived.Test.YtkcfgjedhgagdaaShape2
import Derived.Test.YtkcfgjedhgagdaaRefShape2
namespace Go.Proofs.Ytkcfgjedhgagdaa.Pk
open Go.RowKit
set_option linter.unusedVariables false
set_option linter.unusedSimpArgs false

theorem blocks_lit (W p d v e0 : Int) (w : World) (hv : blocksV W p d = v) (he : sizeE W p d = e0) :
    Calls Try.prog 10 #[.int .i64 W, .int .i64 p, .int .i64 d] w fun e w' => e = .returned (.tuple #[.int .i64 v, .int .i64 e0]) ∧ Below w.heap.size w w' := by
  subst hv he; exact shBlocks_any W p d w
theorem place_lit (W n i l a e0 : Int) (w : World) (hl : placeL W n i = l) (ha : placeO W n i = a) (he : placeE W n i = e0) :
    Calls Try.prog 14 #[.int .i64 W, .int .i64 n, .int .i64 i] w fun e w' => e = .returned (.tuple #[.int .i64 l, .int .i64 a, .int .i64 e0]) ∧ Below w.heap.size w w' := by
  subst hl ha he; exact shPlace_any W n i w
theorem back_lit (W n l a v e0 : Int) (w : World) (hv : backV W n l a = v) (he : backE W n l a = e0) :
    Calls Try.prog 16 #[.int .i64 W, .int .i64 n, .int .i64 l, .int .i64 a] w fun e w' => e = .returned (.tuple #[.int .i64 v, .int .i64 e0]) ∧ Below w.heap.size w w' := by
  subst hv he; exact shBack_any W n l a w
theorem full_lit (W n l v : Int) (w : World) (hv : fullV W n l = v) :
    Calls Try.prog 18 #[.int .i64 W, .int .i64 n, .int .i64 l] w fun e w' => e = .returned (.int .i64 v) ∧ Below w.heap.size w w' := by
  subst hv; exact shFull_any W n l w
theorem largest_lit (W b v : Int) (w : World) (hv : largestV W b = v) :
    Calls Try.prog 20 #[.int .i64 W, .int .i64 b] w fun e w' => e = .returned (.int .i64 v) ∧ Below w.heap.size w w' := by
  subst hv; exact shLargest_any W b w

set_option maxHeartbeats 400000 in
theorem begun7_any (w : World) : Calls Try.prog 12 #[] w fun e w' => e = .returned (.bool true) ∧ Below w.heap.size w w' := by
  go_enter Try.func12, Try.ntmps12
  go_wp2_with fail
  refine (blocks_lit 16 4 4 1 0 _ (by decide) (by decide)).mono ?_
  rintro e w1 ⟨rfl, hb⟩
  have HB1 := Lib.hid hb
  clear hb
  go_wp2_with fail
  refine (blocks_lit 16 9 0 2 0 _ (by decide) (by decide)).mono ?_
  rintro e w2 ⟨rfl, hb⟩
  have HB2 := Lib.hid (below_step HB1.out hb)
  clear hb
  go_wp2_with fail
  refine (blocks_lit 16 8 8 3 0 _ (by decide) (by decide)).mono ?_
  rintro e w3 ⟨rfl, hb⟩
  have HB3 := Lib.hid (below_step HB2.out hb)
  clear hb
  go_wp2_with fail
  refine (place_lit 16 16 15 1 1 0 _ (by decide) (by decide) (by decide)).mono ?_
  rintro e w4 ⟨rfl, hb⟩
  have HB4 := Lib.hid (below_step HB3.out hb)
  clear hb
  go_wp2_with fail
  refine (largest_lit 16 2 15 _ (by decide)).mono ?_
  rintro e w5 ⟨rfl, hb⟩
  have HB5 := Lib.hid (below_step HB4.out hb)
  clear hb
  go_wp2_with fail
  go_ret
  exact ⟨rfl, HB5.out⟩

set_option maxHeartbeats 400000 in
theorem wide_yes (W : Int) (w : World) (h0 : 40 < W) (h1 : W ≤ 256) :
    Calls Try.prog 13 #[.int .i64 W] w fun e w' => e = .returned (.bool true) ∧ w = w' := by
  go_enter Try.func13, Try.ntmps13
  go_wp2
  go_ret
  exact ⟨ret_bool (by first | rfl | (simp; done) | (simp; omega)), rfl⟩
set_option maxHeartbeats 400000 in
theorem wide_no (W : Int) (w : World) (h : ¬ (40 < W ∧ W ≤ 256)) :
    Calls Try.prog 13 #[.int .i64 W] w fun e w' => e = .returned (.bool false) ∧ w = w' := by
  by_cases h0 : 40 < W
  · have h1 : 256 < W := by omega
    clear h
    go_enter Try.func13, Try.ntmps13
    go_wp2
    go_ret
    exact ⟨ret_bool (by simp; omega), rfl⟩
  · clear h
    go_enter Try.func13, Try.ntmps13
    go_wp2
    go_ret
    exact ⟨rfl, rfl⟩

/-! ### What the laws ask of places -/
theorem place_in {W n i : Int} (h : placeE W n i = 0) : 1 ≤ placeO W n i ∧ placeO W n i < W ∧ (placeL W n i < 0 → 8 ≤ placeO W n i) ∧ -1 ≤ placeL W n i := by
  obtain ⟨hw, i0, i1⟩ := placeE_ok h
  obtain ⟨w0, w1, n0, n1⟩ := wrongE_ok hw
  by_cases hn : n ≤ W - 8
  · obtain ⟨e1, e2⟩ := place_small h hn
    rw [e1, e2]
    exact ⟨by omega, by omega, fun _ => by omega, by omega⟩
  · obtain ⟨e1, e2⟩ := place_big h (by omega)
    obtain ⟨p1, p2, p3, p4⟩ := part_of (m := W - 1) (i := i) (by omega) i0
    rw [e1, e2]
    exact ⟨by omega, by omega, fun h => by omega, by omega⟩
theorem place_inj {W n i j : Int} (hi : placeE W n i = 0) (hj : placeE W n j = 0) (hl : placeL W n i = placeL W n j) (ha : placeO W n i = placeO W n j) : i = j := by
  have h1 := (back_place hi).2
  have h2 := (back_place hj).2
  rw [hl, ha] at h1
  omega
/-- All that lie in the head and the first k leaves. -/
def allTo (W n k : Int) : Int := if n ≤ W - 8 then n else leafSum W n k
theorem allTo_zero {W n : Int} (hw : wrongE W n = 0) : allTo W n 0 = fullV W n (-1) := by
  obtain ⟨w0, w1, n0, n1⟩ := wrongE_ok hw
  unfold allTo fullV
  rw [if_pos hw]
  by_cases hn : n ≤ W - 8
  · rw [if_pos hn, within_head hn]
  · rw [if_neg hn, within_neg (by omega) (by decide)]
    unfold leafSum
    rw [Int.zero_mul]; omega
theorem leaves_more {W n k : Int} (h0 : 0 ≤ k) (h : k < leavesI W n) : W - 8 < n := by
  by_cases hn : n ≤ W - 8
  · rw [leaves_small hn] at h; omega
  · omega
theorem allTo_succ {W n k : Int} (hw : wrongE W n = 0) (h0 : 0 ≤ k) (h1 : k < leavesI W n) : allTo W n (k + 1) = allTo W n k + fullV W n k := by
  have hn := leaves_more h0 h1
  unfold allTo fullV
  rw [if_pos hw, if_neg (by omega), if_neg (by omega)]
  exact leafSum_succ hw hn h0 h1
theorem allTo_all {W n : Int} (hw : wrongE W n = 0) : allTo W n (leavesI W n) = n := by
  unfold allTo
  by_cases hn : n ≤ W - 8
  · rw [if_pos hn]
  · rw [if_neg hn]; exact leafSum_all hw (by omega)
theorem full_some {W n k : Int} (hw : wrongE W n = 0) (h0 : 0 ≤ k) (h1 : k < leavesI W n) : 1 ≤ fullV W n k ∧ fullV W n k ≤ W - 1 ∧ (k < leavesI W n - 1 → fullV W n k = W - 1) := by
  have hn := leaves_more h0 h1
  unfold fullV
  rw [if_pos hw]
  exact within_some hw hn h0 h1
theorem allTo_bd {W n k : Int} (hw : wrongE W n = 0) (h0 : 0 ≤ k) : 0 ≤ allTo W n k ∧ allTo W n k ≤ n := by
  obtain ⟨w0, w1, n0, n1⟩ := wrongE_ok hw
  unfold allTo
  split
  · omega
  · have := Int.mul_nonneg h0 (show 0 ≤ W - 1 by omega)
    unfold leafSum; omega

end Go.Proofs.Ytkcfgjedhgagdaa.Pk
