/-
  What the document's functions of layer 7 return.
-/
import Derived.Test.YtkcfgjedhgagdaaProg
import Derived.Test.YtkcfgjedhgagdaaShapeMath
import Derived.Test.YtkcfgjedhgagdaaRatio
import Derived.IntWalk
import Derived.OwnWalk
namespace Go.Proofs.Ytkcfgjedhgagdaa.Pk
open Go.RowKit
set_option linter.unusedVariables false
set_option linter.unusedSimpArgs false

set_option maxHeartbeats 400000 in
theorem rsWidth_any (W : Int) (w : World) :
    Calls Try.prog 32 #[.int .i64 W] w fun e w' => e = .returned (.bool (widB W)) ∧ w = w' := by
  by_cases h0 : 16 ≤ W
  · by_cases h1 : W ≤ 256
    · have E := Lib.hid (widB_mk h0 h1)
      go_enter Try.func32, Try.ntmps32
      go_wp2
      go_ret
      exact ⟨ret_bool E.out.symm, rfl⟩
    · have E := Lib.hid (widB_mk' (W := W) (by omega))
      go_enter Try.func32, Try.ntmps32
      go_wp2
      go_ret
      exact ⟨ret_bool E.out.symm, rfl⟩
  · have E := Lib.hid (widB_mk' (W := W) (by omega))
    go_enter Try.func32, Try.ntmps32
    go_wp2
    go_ret
    exact ⟨ret_bool E.out.symm, rfl⟩

set_option maxHeartbeats 400000 in
theorem rsFields_any (W : Int) (w : World) (h0 : 16 ≤ W) (h1 : W ≤ 256) :
    Calls Try.prog 46 #[.int .i64 W] w fun e w' => e = .returned (.int .i64 (fieldsI W)) ∧ w = w' := by
  have hf : 120 ≤ (W - 8) * (W - 1) ∧ (W - 8) * (W - 1) ≤ 63240 := fields_bd h0 h1
  go_enter Try.func46, Try.ntmps46
  go_wp2
  go_ret
  exact ⟨rfl, rfl⟩

set_option maxHeartbeats 400000 in
theorem rsLeaves_any (W n : Int) (w : World) (h0 : 16 ≤ W) (h1 : W ≤ 256) (h3 : n ≤ fieldsI W) (hm : -9223372036854775808 ≤ n) :
    Calls Try.prog 34 #[.int .i64 W, .int .i64 n] w fun e w' => e = .returned (.int .i64 (leavesI W n)) ∧ w = w' := by
  have hf := fields_bd h0 h1
  by_cases h : n ≤ W - 8
  · have E := Lib.hid (leaves_small h)
    go_enter Try.func34, Try.ntmps34
    go_wp2
    go_ret
    exact ⟨ret_int E.out.symm, rfl⟩
  · have L := leaves_big h0 h1 (by omega) h3
    have HL : Hid (∀ k : Int, 0 ≤ k → k ≤ leavesI W n → (k < leavesI W n ↔ k * (W - 1) < n) ∧ 0 ≤ k * (W - 1) ∧ k * (W - 1) ≤ 70000) := Lib.hid (fun k k0 k1 => by
      have h4 := Int.mul_nonneg k0 (show 0 ≤ W - 1 by omega)
      have h5 := leaf_le (m := W - 1) (by omega) k1
      refine ⟨⟨fun hk => ?_, fun hk => ?_⟩, h4, by omega⟩
      · have := leaf_lt (m := W - 1) (by omega) hk
        omega
      · by_cases e : k < leavesI W n
        · exact e
        · have : k = leavesI W n := by omega
          subst this; omega)
    have g1 : leavesI W n ≤ W - 8 := L.2.1
    have g2 : 1 ≤ leavesI W n := L.1
    clear L
    generalize hq : leavesI W n = q at *
    clear hq
    go_enter Try.func34, Try.ntmps34
    go_wp2
    go_loop [5] (fun i => ∃ k : Int, 0 ≤ k ∧ k ≤ q ∧ i = .int .i64 k) (fun i => (q - intOf i).toNat)
    case atStart => exact ⟨0, Int.le_refl _, by omega, rfl⟩
    case round =>
      obtain ⟨k, k0, k1, rfl⟩ := hrel
      obtain ⟨c1, c2, c3⟩ := HL.out k k0 k1
      by_cases hk : k < q
      · have hk2 := c1.1 hk
        clear c1
        go_wp2
        go_round
        case rel => exact ⟨k + 1, by omega, by omega, rfl⟩
        case measure => simp [intOf]; omega
      · have hk2 : ¬ k * (W - 1) < n := fun h => hk (c1.2 h)
        have e : k = q := by omega
        have HE := Lib.hid e
        clear c1 e
        go_wp2
        go_ret
        exact ⟨ret_int HE.out, rfl⟩

set_option maxHeartbeats 400000 in
theorem rsSize_yes (W p d : Int) (w : World) (h0 : 16 ≤ W) (h1 : W ≤ 256) (h2 : 0 ≤ p) (h3 : 0 ≤ d) (h4 : p + d ≤ fieldsI W) :
    Calls Try.prog 33 #[.int .i64 W, .int .i64 p, .int .i64 d] w fun e w' => e = .returned (.bool true) ∧ w = w' := by
  have hf := fields_bd h0 h1
  have g1 : p ≤ fieldsI W := by omega
  have g2 : d ≤ fieldsI W := by omega
  have HF : Hid (∀ w', Calls Try.prog 46 #[.int .i64 W] w' fun e w'' => e = .returned (.int .i64 (fieldsI W)) ∧ w' = w'') := Lib.hid (fun w' => rsFields_any W w' h0 h1)
  go_enter Try.func33, Try.ntmps33
  go_wp2_with fail
  refine (HF.out _).mono ?_
  rintro e w1 ⟨rfl, rfl⟩
  go_wp2_with fail
  refine (HF.out _).mono ?_
  rintro e w1 ⟨rfl, rfl⟩
  go_wp2_with fail
  refine (HF.out _).mono ?_
  rintro e w1 ⟨rfl, rfl⟩
  go_wp2_with fail
  go_ret
  exact ⟨ret_bool (by first | rfl | (simp; done) | (simp; omega)), rfl⟩

set_option maxHeartbeats 400000 in
theorem rsSize_no (W p d : Int) (w : World) (h0 : 16 ≤ W) (h1 : W ≤ 256) (h : p < 0 ∨ d < 0 ∨ fieldsI W < p + d) :
    Calls Try.prog 33 #[.int .i64 W, .int .i64 p, .int .i64 d] w fun e w' => e = .returned (.bool false) ∧ w = w' := by
  have hf := fields_bd h0 h1
  have HF : Hid (∀ w', Calls Try.prog 46 #[.int .i64 W] w' fun e w'' => e = .returned (.int .i64 (fieldsI W)) ∧ w' = w'') := Lib.hid (fun w' => rsFields_any W w' h0 h1)
  by_cases hp : p < 0
  · go_enter Try.func33, Try.ntmps33
    go_wp2_with fail
    go_ret
    exact ⟨rfl, rfl⟩
  · by_cases hd : d < 0
    · go_enter Try.func33, Try.ntmps33
      go_wp2_with fail
      go_ret
      exact ⟨rfl, rfl⟩
    · by_cases hp2 : fieldsI W < p
      · go_enter Try.func33, Try.ntmps33
        go_wp2_with fail
        refine (HF.out _).mono ?_
        rintro e w1 ⟨rfl, rfl⟩
        go_wp2_with fail
        go_ret
        exact ⟨rfl, rfl⟩
      · by_cases hd2 : fieldsI W < d
        · go_enter Try.func33, Try.ntmps33
          go_wp2_with fail
          refine (HF.out _).mono ?_
          rintro e w1 ⟨rfl, rfl⟩
          go_wp2_with fail
          refine (HF.out _).mono ?_
          rintro e w1 ⟨rfl, rfl⟩
          go_wp2_with fail
          go_ret
          exact ⟨rfl, rfl⟩
        · have hs : fieldsI W < p + d := by omega
          go_enter Try.func33, Try.ntmps33
          go_wp2_with fail
          refine (HF.out _).mono ?_
          rintro e w1 ⟨rfl, rfl⟩
          go_wp2_with fail
          refine (HF.out _).mono ?_
          rintro e w1 ⟨rfl, rfl⟩
          go_wp2_with fail
          refine (HF.out _).mono ?_
          rintro e w1 ⟨rfl, rfl⟩
          go_wp2_with fail
          go_ret
          exact ⟨ret_bool (by first | rfl | (simp; done) | (simp; omega)), rfl⟩

set_option maxHeartbeats 400000 in
theorem rsWrong_any (W n : Int) (w : World) :
    Calls Try.prog 40 #[.int .i64 W, .int .i64 n] w fun e w' => e = .returned (.int .i64 (wrongE W n)) ∧ w = w' := by
  cases hw : widB W with
  | false =>
    have E : Hid (wrongE W n = 1) := Lib.hid (by unfold wrongE; rw [hw]; rfl)
    have HW := Lib.hid hw
    clear hw
    go_enter Try.func40, Try.ntmps40
    go_wp2_with fail
    refine (rsWidth_any _ _).mono ?_
    rw [HW.out]
    rintro e w1 ⟨rfl, rfl⟩
    go_wp2_with fail
    go_ret
    exact ⟨ret_int E.out.symm, rfl⟩
  | true =>
    obtain ⟨h0, h1⟩ := widB_yes hw
    by_cases h : n < 0 ∨ fieldsI W < n
    · have E : Hid (wrongE W n = 3) := Lib.hid (by unfold wrongE; rw [if_pos hw, if_pos h])
      have HS := Lib.hid (show n < 0 ∨ (0 : Int) < 0 ∨ fieldsI W < n + 0 by omega)
      have HW := Lib.hid hw
      clear hw h
      go_enter Try.func40, Try.ntmps40
      go_wp2_with fail
      refine (rsWidth_any _ _).mono ?_
      rw [HW.out]
      rintro e w1 ⟨rfl, rfl⟩
      go_wp2_with fail
      refine (rsSize_no _ _ _ _ h0 h1 HS.out).mono ?_
      rintro e w1 ⟨rfl, rfl⟩
      go_wp2_with fail
      go_ret
      exact ⟨ret_int E.out.symm, rfl⟩
    · have E : Hid (wrongE W n = 0) := Lib.hid (by unfold wrongE; rw [if_pos hw, if_neg h])
      have h2 : 0 ≤ n := by omega
      have h4 : n + 0 ≤ fieldsI W := by omega
      have HW := Lib.hid hw
      clear hw h
      go_enter Try.func40, Try.ntmps40
      go_wp2_with fail
      refine (rsWidth_any _ _).mono ?_
      rw [HW.out]
      rintro e w1 ⟨rfl, rfl⟩
      go_wp2_with fail
      refine (rsSize_yes _ _ _ _ h0 h1 h2 (by decide) h4).mono ?_
      rintro e w1 ⟨rfl, rfl⟩
      go_wp2_with fail
      go_ret
      exact ⟨ret_int E.out.symm, rfl⟩

set_option maxHeartbeats 400000 in
theorem rsBlocks_any (W p d : Int) (w : World) :
    Calls Try.prog 11 #[.int .i64 W, .int .i64 p, .int .i64 d] w fun e w' => e = .returned (.tuple #[.int .i64 (blocksV W p d), .int .i64 (sizeE W p d)]) ∧ w = w' := by
  cases hw : widB W with
  | false =>
    have E1 : sizeE W p d = 1 := by unfold sizeE; rw [hw]; rfl
    have E : Hid (blocksV W p d = 0 ∧ sizeE W p d = 1) := Lib.hid ⟨by unfold blocksV; rw [E1]; rfl, E1⟩
    have HW := Lib.hid hw
    clear hw E1
    go_enter Try.func11, Try.ntmps11
    go_wp2_with fail
    refine (rsWidth_any _ _).mono ?_
    rw [HW.out]
    rintro e w1 ⟨rfl, rfl⟩
    go_wp2_with fail
    go_ret2
    exact ⟨by rw [E.out.1, E.out.2]; rfl, rfl⟩
  | true =>
    obtain ⟨h0, h1⟩ := widB_yes hw
    by_cases h : p < 0 ∨ d < 0 ∨ fieldsI W < p + d
    · have E1 : sizeE W p d = 3 := by unfold sizeE; rw [if_pos hw, if_pos h]
      have E : Hid (blocksV W p d = 0 ∧ sizeE W p d = 3) := Lib.hid ⟨by unfold blocksV; rw [E1]; rfl, E1⟩
      have HW := Lib.hid hw
      have HS := Lib.hid h
      clear hw E1 h
      go_enter Try.func11, Try.ntmps11
      go_wp2_with fail
      refine (rsWidth_any _ _).mono ?_
      rw [HW.out]
      rintro e w1 ⟨rfl, rfl⟩
      go_wp2_with fail
      refine (rsSize_no _ _ _ _ h0 h1 HS.out).mono ?_
      rintro e w1 ⟨rfl, rfl⟩
      go_wp2_with fail
      go_ret2
      exact ⟨by rw [E.out.1, E.out.2]; rfl, rfl⟩
    · have E1 : sizeE W p d = 0 := by unfold sizeE; rw [if_pos hw, if_neg h]
      have E : Hid (blocksV W p d = 1 + leavesI W (p + d) ∧ sizeE W p d = 0) := Lib.hid ⟨by unfold blocksV; rw [E1]; rfl, E1⟩
      have h2 : 0 ≤ p := by omega
      have h3 : 0 ≤ d := by omega
      have h4 : p + d ≤ fieldsI W := by omega
      have hf := fields_bd h0 h1
      have L := leaves_bd h0 h1 h4
      have HL : Hid (∀ w', Calls Try.prog 34 #[.int .i64 W, .int .i64 (p + d)] w' fun e w'' => e = .returned (.int .i64 (leavesI W (p + d))) ∧ w' = w'') := Lib.hid (fun w' => rsLeaves_any W _ w' h0 h1 h4 (by omega))
      have HW := Lib.hid hw
      clear hw E1 h
      go_enter Try.func11, Try.ntmps11
      go_wp2_with fail
      refine (rsWidth_any _ _).mono ?_
      rw [HW.out]
      rintro e w1 ⟨rfl, rfl⟩
      go_wp2_with fail
      refine (rsSize_yes _ _ _ _ h0 h1 h2 h3 h4).mono ?_
      rintro e w1 ⟨rfl, rfl⟩
      go_wp2_with fail
      refine (HL.out _).mono ?_
      rintro e w1 ⟨rfl, rfl⟩
      go_wp2_with fail
      go_ret2
      exact ⟨by rw [E.out.1, E.out.2]; rfl, rfl⟩

/-- What the document's Place returns: but for draws the world is as it was. -/
def RPlacePost (W n i : Int) (w : World) (e : Ending) (w' : World) : Prop :=
  e = .returned (.tuple #[.int .i64 (placeL W n i), .int .i64 (placeO W n i), .int .i64 (placeE W n i)]) ∧ Drw w w'

set_option maxHeartbeats 400000 in
theorem rsPlace_wrong (W n i : Int) (w : World) (he : wrongE W n ≠ 0) :
    Calls Try.prog 15 #[.int .i64 W, .int .i64 n, .int .i64 i] w (RPlacePost W n i w) := by
  have e1 : placeE W n i = wrongE W n := by unfold placeE; rw [if_neg he]
  have e2 := place_wrong (W := W) (n := n) (i := i) (by rw [e1]; exact he)
  have E : Hid (placeL W n i = 0 ∧ placeO W n i = 0 ∧ placeE W n i = wrongE W n) := Lib.hid ⟨e2.1, e2.2, e1⟩
  clear e1 e2
  have g := bne_of he
  clear he
  go_enter Try.func15, Try.ntmps15
  go_wp2_with fail
  refine (rsWrong_any _ _ _).mono ?_
  rintro e w1 ⟨rfl, rfl⟩
  go_wp2_with fail
  go_ret3
  exact ⟨by rw [E.out.1, E.out.2.1, E.out.2.2]; rfl, Drw.refl _⟩

set_option maxHeartbeats 400000 in
theorem rsPlace_none (W n i : Int) (w : World) (he : wrongE W n = 0) (hi : i < 0 ∨ n ≤ i) :
    Calls Try.prog 15 #[.int .i64 W, .int .i64 n, .int .i64 i] w (RPlacePost W n i w) := by
  have e1 : placeE W n i = 7 := by unfold placeE; rw [if_pos he, if_pos hi]
  have e2 := place_wrong (W := W) (n := n) (i := i) (by rw [e1]; decide)
  have E : Hid (placeL W n i = 0 ∧ placeO W n i = 0 ∧ placeE W n i = 7) := Lib.hid ⟨e2.1, e2.2, e1⟩
  clear e1 e2
  have HE := Lib.hid he
  clear he
  by_cases h : i < 0
  all_goals
    go_enter Try.func15, Try.ntmps15
    go_wp2_with fail
    refine (rsWrong_any _ _ _).mono ?_
    rw [HE.out]
    rintro e w1 ⟨rfl, rfl⟩
    have hi2 : i < 0 ∨ n ≤ i := hi
    go_wp2_with fail
    go_ret3
    exact ⟨by rw [E.out.1, E.out.2.1, E.out.2.2]; rfl, Drw.refl _⟩

set_option maxHeartbeats 400000 in
theorem rsPlace_small (W n i : Int) (w : World) (hp : placeE W n i = 0) (hn : n ≤ W - 8) :
    Calls Try.prog 15 #[.int .i64 W, .int .i64 n, .int .i64 i] w (RPlacePost W n i w) := by
  obtain ⟨he, i0, i1⟩ := placeE_ok hp
  obtain ⟨h0, h1, h2, h3⟩ := wrongE_ok he
  obtain ⟨e2, e3⟩ := place_small hp hn
  have E : Hid (placeL W n i = -1 ∧ placeO W n i = 8 + i ∧ placeE W n i = 0) := Lib.hid ⟨e2, e3, hp⟩
  have L : Hid (leavesI W n = 0) := Lib.hid (leaves_small hn)
  have HE := Lib.hid he
  clear he e2 e3 hp
  go_enter Try.func15, Try.ntmps15
  go_wp2_with fail
  refine (rsWrong_any _ _ _).mono ?_
  rw [HE.out]
  rintro e w1 ⟨rfl, rfl⟩
  go_wp2_with fail
  refine (rsLeaves_any _ _ _ h0 h1 h3 (by omega)).mono ?_
  rw [L.out]
  rintro e w1 ⟨rfl, rfl⟩
  go_wp2_with fail
  go_ret3
  exact ⟨by rw [E.out.1, E.out.2.1, E.out.2.2]; rfl, Drw.refl _⟩

set_option maxHeartbeats 400000 in
theorem rsPlace_big (W n i : Int) (w : World) (hp : placeE W n i = 0) (hn : W - 8 < n) :
    Calls Try.prog 15 #[.int .i64 W, .int .i64 n, .int .i64 i] w (RPlacePost W n i w) := by
  obtain ⟨he, i0, i1⟩ := placeE_ok hp
  obtain ⟨h0, h1, h2, h3⟩ := wrongE_ok he
  obtain ⟨e2, e3⟩ := place_big hp hn
  have hf := fields_bd h0 h1
  obtain ⟨p1, p2, p3, p4⟩ := part_of (m := W - 1) (i := i) (by omega) i0
  have hq := Int.ediv_le_self (W - 1) i0
  have E : Hid (placeL W n i = i / (W - 1) ∧ placeO W n i = 1 + i % (W - 1) ∧ placeE W n i = 0) := Lib.hid ⟨e2, e3, hp⟩
  have L := (leaves_big h0 h1 hn h3).1
  have g := bne_of (show leavesI W n ≠ 0 by omega)
  have g2 := bne_of (show W - 1 ≠ 0 by omega)
  have HE := Lib.hid he
  clear he e2 e3 hp p1
  go_enter Try.func15, Try.ntmps15
  go_wp2_with fail
  refine (rsWrong_any _ _ _).mono ?_
  rw [HE.out]
  rintro e w1 ⟨rfl, rfl⟩
  go_wp2_with fail
  refine (rsLeaves_any _ _ _ h0 h1 h3 (by omega)).mono ?_
  rintro e w1 ⟨rfl, rfl⟩
  go_wp2_with fail
  go_quiet (fail)
  go_wp2_with fail
  go_ret3
  exact ⟨by rw [E.out.1, E.out.2.1, E.out.2.2]; rfl, _, rfl⟩

theorem rsPlace_any (W n i : Int) (w : World) :
    Calls Try.prog 15 #[.int .i64 W, .int .i64 n, .int .i64 i] w (RPlacePost W n i w) := by
  by_cases he : wrongE W n = 0
  · by_cases hi : i < 0 ∨ n ≤ i
    · exact rsPlace_none W n i w he hi
    · have hp := placeE_mk he (i := i) (by omega) (by omega)
      by_cases hn : n ≤ W - 8
      · exact rsPlace_small W n i w hp hn
      · exact rsPlace_big W n i w hp (by omega)
  · exact rsPlace_wrong W n i w he

end Go.Proofs.Ytkcfgjedhgagdaa.Pk
