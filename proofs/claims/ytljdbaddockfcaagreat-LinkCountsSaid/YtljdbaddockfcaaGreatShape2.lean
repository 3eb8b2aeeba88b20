/-
  What the functions of package shape return.
-/
import Derived.Test.YtljdbaddockfcaaGreatShape
import Derived.OwnWalk
namespace Go.Proofs.YtljdbaddockfcaaGreat.Pk
open Go.RowKit
set_option linter.unusedVariables false
set_option linter.unusedSimpArgs false

set_option maxHeartbeats 400000 in
theorem shBlocks_any (W p d : Int) (w : World) :
    Calls Tryz.prog 65 #[.int .i64 W, .int .i64 p, .int .i64 d] w fun e w' => e = .returned (.tuple #[.int .i64 (blocksV W p d), .int .i64 (sizeE W p d)]) ∧ Below w.heap.size w w' := by
  by_cases he : sizeE W p d = 0
  · have E : Hid (blocksV W p d = 1 + leavesI W (p + d)) := Lib.hid (by unfold blocksV; rw [if_pos he])
    obtain ⟨h0, h1, h2, h3, h4⟩ := sizeE_ok he
    have hf := fields_bd h0 h1
    have L := leaves_bd h0 h1 h4
    have HL : Hid (∀ w', Calls Tryz.prog 129 #[.int .i64 W, .int .i64 (p + d)] w' fun e w'' => e = .returned (.int .i64 (leavesI W (p + d))) ∧ w' = w'') := Lib.hid (fun w' => shLeavesOf_any W _ w' h0 h1 (by omega) h4)
    rw [he]
    have HE := Lib.hid he
    clear he
    go_enter Tryz.func65, Tryz.ntmps65
    go_wp2_with fail
    refine (shTogether2_any _ _ _ _ _ (by simp)).mono ?_
    rw [HE.out, if_pos rfl]
    rintro e w1 ⟨rfl, hb⟩
    have HB := Lib.hid hb
    clear hb
    go_wp2_with fail
    refine (HL.out _).mono ?_
    rintro e w1 ⟨rfl, rfl⟩
    go_wp2_with fail
    go_ret2
    exact ⟨by rw [E.out]; rfl, HB.out⟩
  · have E : Hid (blocksV W p d = 0) := Lib.hid (by unfold blocksV; rw [if_neg he])
    have g := bne_of he
    have HE := Lib.hid he
    clear he
    go_enter Tryz.func65, Tryz.ntmps65
    go_wp2_with fail
    refine (shTogether2_any _ _ _ _ _ (by simp)).mono ?_
    rw [if_neg HE.out]
    rintro e w1 ⟨rfl, hb⟩
    have HB := Lib.hid hb
    clear hb
    go_wp2_with fail
    go_ret2
    exact ⟨by rw [E.out]; rfl, HB.out⟩

/-- What Place returns. -/
def PlacePost (W n i : Int) (w : World) (e : Ending) (w' : World) : Prop :=
  e = .returned (.tuple #[.int .i64 (placeL W n i), .int .i64 (placeO W n i), .int .i64 (placeE W n i)]) ∧ Below w.heap.size w w'

set_option maxHeartbeats 400000 in
theorem shPlace_wrong (W n i : Int) (w : World) (he : wrongE W n ≠ 0) :
    Calls Tryz.prog 173 #[.int .i64 W, .int .i64 n, .int .i64 i] w (PlacePost W n i w) := by
  have e1 : placeE W n i = wrongE W n := by unfold placeE; rw [if_neg he]
  have e2 := place_wrong (W := W) (n := n) (i := i) (by rw [e1]; exact he)
  have E : Hid (placeL W n i = 0 ∧ placeO W n i = 0 ∧ placeE W n i = wrongE W n) := Lib.hid ⟨e2.1, e2.2, e1⟩
  clear e1 e2
  have g := bne_of he
  have HE := Lib.hid he
  clear he
  go_enter Tryz.func173, Tryz.ntmps173
  go_wp2_with fail
  refine (shTogether1_any _ _ _ _ (by simp)).mono ?_
  rw [if_neg HE.out]
  rintro e w1 ⟨rfl, hb⟩
  have HB := Lib.hid hb
  clear hb
  go_wp2_with fail
  go_ret3
  exact ⟨by rw [E.out.1, E.out.2.1, E.out.2.2]; rfl, HB.out⟩

set_option maxHeartbeats 400000 in
theorem shPlace_none (W n i : Int) (w : World) (he : wrongE W n = 0) (hi : i < 0 ∨ n ≤ i) :
    Calls Tryz.prog 173 #[.int .i64 W, .int .i64 n, .int .i64 i] w (PlacePost W n i w) := by
  have e1 : placeE W n i = 7 := by unfold placeE; rw [if_pos he, if_pos hi]
  have e2 := place_wrong (W := W) (n := n) (i := i) (by rw [e1]; decide)
  have E : Hid (placeL W n i = 0 ∧ placeO W n i = 0 ∧ placeE W n i = 7) := Lib.hid ⟨e2.1, e2.2, e1⟩
  clear e1 e2
  have HE := Lib.hid he
  clear he
  by_cases h : i < 0
  all_goals
    go_enter Tryz.func173, Tryz.ntmps173
    go_wp2_with fail
    refine (shTogether1_any _ _ _ _ (by simp)).mono ?_
    rw [HE.out, if_pos rfl]
    rintro e w1 ⟨rfl, hb⟩
    have HB := Lib.hid hb
    clear hb
    have hi2 : i < 0 ∨ n ≤ i := hi
    go_wp2_with fail
    go_ret3
    exact ⟨by rw [E.out.1, E.out.2.1, E.out.2.2]; rfl, HB.out⟩

set_option maxHeartbeats 400000 in
theorem shPlace_small (W n i : Int) (w : World) (hp : placeE W n i = 0) (hn : n ≤ W - 8) :
    Calls Tryz.prog 173 #[.int .i64 W, .int .i64 n, .int .i64 i] w (PlacePost W n i w) := by
  obtain ⟨he, i0, i1⟩ := placeE_ok hp
  obtain ⟨h0, h1, h2, h3⟩ := wrongE_ok he
  obtain ⟨e2, e3⟩ := place_small hp hn
  have E : Hid (placeL W n i = -1 ∧ placeO W n i = 8 + i ∧ placeE W n i = 0) := Lib.hid ⟨e2, e3, hp⟩
  have A : Hid (aheadI W (-1) = 0) := Lib.hid (ahead_neg h0 h1 (by decide))
  have HE := Lib.hid he
  clear he e2 e3 hp
  go_enter Tryz.func173, Tryz.ntmps173
  go_wp2_with fail
  refine (shTogether1_any _ _ _ _ (by simp)).mono ?_
  rw [HE.out, if_pos rfl]
  rintro e w1 ⟨rfl, hb⟩
  have HB := Lib.hid hb
  clear hb
  go_wp2_with fail
  refine (shIsSmall_yes _ _ _ h0 h1 hn).mono ?_
  rintro e w2 ⟨rfl, rfl⟩
  go_wp2_with fail
  refine (eqIv (shStart_any _ _) (show startI (-1) = 8 from rfl)).mono ?_
  rintro e w2 ⟨rfl, rfl⟩
  go_wp2_with fail
  refine (shAhead_any _ _ _ h0 h1).mono ?_
  rw [A.out]
  rintro e w2 ⟨rfl, hb⟩
  have HB2 := Lib.hid (below_step HB.out hb)
  clear hb
  go_wp2_with fail
  go_ret3
  exact ⟨by rw [E.out.1, E.out.2.1, E.out.2.2]; rfl, HB2.out⟩

set_option maxHeartbeats 400000 in
theorem shPlace_big (W n i : Int) (w : World) (hp : placeE W n i = 0) (hn : W - 8 < n) :
    Calls Tryz.prog 173 #[.int .i64 W, .int .i64 n, .int .i64 i] w (PlacePost W n i w) := by
  obtain ⟨he, i0, i1⟩ := placeE_ok hp
  obtain ⟨h0, h1, h2, h3⟩ := wrongE_ok he
  obtain ⟨e2, e3⟩ := place_big hp hn
  have hf := fields_bd h0 h1
  obtain ⟨p1, p2, p3, p4⟩ := part_of (m := W - 1) (i := i) (by omega) i0
  have hq : i / (W - 1) ≤ 248 := by
    by_cases h : i / (W - 1) ≤ W - 8
    · omega
    · have := leaf_lt (m := W - 1) (a := W - 8) (b := i / (W - 1)) (by omega) (by omega)
      have : (W - 8) * (W - 1) = fieldsI W := rfl
      omega
  have hd : downI i (W - 1) = i / (W - 1) := by unfold downI byI; rw [cnt_id i0 (by omega), cnt_id (by omega) (by omega), if_neg (by omega)]
  have A := ahead_id (l := i / (W - 1)) h0 h1 p4 (by omega)
  have st : startI (i / (W - 1)) = 1 := by unfold startI; rw [if_neg (by omega)]
  have D : Hid (∀ w', Calls Tryz.prog 203 #[.int .i64 i, .int .i64 (W - 1)] w' fun e w'' => e = .returned (.int .i64 (i / (W - 1))) ∧ w' = w'') := Lib.hid (fun w' => eqIv (down_any _ _ _) hd)
  have S : Hid (∀ w', Calls Tryz.prog 204 #[.int .i64 (i / (W - 1))] w' fun e w'' => e = .returned (.int .i64 1) ∧ w' = w'') := Lib.hid (fun w' => eqIv (shStart_any _ _) st)
  have HA : Hid (∀ w', Calls Tryz.prog 205 #[.int .i64 W, .int .i64 (i / (W - 1))] w' fun e w'' => e = .returned (.int .i64 (i / (W - 1) * (W - 1))) ∧ Below w'.heap.size w' w'') := Lib.hid (fun w' => by have := shAhead_any W (i / (W - 1)) w' h0 h1; rw [A] at this; exact this)
  have e4 : placeO W n i = 1 + i - i / (W - 1) * (W - 1) := by rw [e3]; omega
  have hb4 := mul_le_of p4 (show 0 ≤ W - 1 by omega) hq (show W - 1 ≤ 255 by omega)
  have E : Hid (placeL W n i = i / (W - 1) ∧ placeO W n i = 1 + i - i / (W - 1) * (W - 1) ∧ placeE W n i = 0) := Lib.hid ⟨e2, e4, hp⟩
  have HE := Lib.hid he
  clear he e2 e3 e4 hp A st hd p1 p2 p3
  generalize i / (W - 1) * (W - 1) = B at *
  generalize i / (W - 1) = q at *
  go_enter Tryz.func173, Tryz.ntmps173
  go_wp2_with fail
  refine (shTogether1_any _ _ _ _ (by simp)).mono ?_
  rw [HE.out, if_pos rfl]
  rintro e w1 ⟨rfl, hb⟩
  have HB := Lib.hid hb
  clear hb
  go_wp2_with fail
  refine (shIsSmall_no _ _ _ h0 h1 hn).mono ?_
  rintro e w2 ⟨rfl, rfl⟩
  go_wp2_with fail
  refine (shPerLeaf_any _ _ h0 h1).mono ?_
  rintro e w2 ⟨rfl, rfl⟩
  go_wp2_with fail
  refine (D.out _).mono ?_
  rintro e w2 ⟨rfl, rfl⟩
  go_wp2_with fail
  refine (S.out _).mono ?_
  rintro e w2 ⟨rfl, rfl⟩
  go_wp2_with fail
  refine (HA.out _).mono ?_
  rintro e w2 ⟨rfl, hb⟩
  have HB2 := Lib.hid (below_step HB.out hb)
  clear hb
  go_wp2_with fail
  go_ret3
  exact ⟨by rw [E.out.1, E.out.2.1, E.out.2.2]; rfl, HB2.out⟩

theorem shPlace_any (W n i : Int) (w : World) :
    Calls Tryz.prog 173 #[.int .i64 W, .int .i64 n, .int .i64 i] w (PlacePost W n i w) := by
  by_cases he : wrongE W n = 0
  · by_cases hi : i < 0 ∨ n ≤ i
    · exact shPlace_none W n i w he hi
    · have hp := placeE_mk he (i := i) (by omega) (by omega)
      by_cases hn : n ≤ W - 8
      · exact shPlace_small W n i w hp hn
      · exact shPlace_big W n i w hp (by omega)
  · exact shPlace_wrong W n i w he

end Go.Proofs.YtljdbaddockfcaaGreat.Pk
