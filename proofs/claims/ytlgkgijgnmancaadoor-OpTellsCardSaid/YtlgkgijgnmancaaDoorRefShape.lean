/-
  What the document's functions of layer 7 return.
-/
import Derived.Test.YtlgkgijgnmancaaDoorProg
import Derived.Test.YtlgkgijgnmancaaDoorBaseEtc
import Derived.Test.YtlgkgijgnmancaaDoorPlanFn
import Derived.IntWalk
import Derived.OwnWalk
namespace Go.Proofs.YtlgkgijgnmancaaDoor.Pk
open Go.RowKit
set_option linter.unusedVariables false
set_option linter.unusedSimpArgs false

set_option maxHeartbeats 400000 in
theorem rsWidth_any (W : Int) (w : World) :
    Calls Tryd.prog 66 #[.int .i64 W] w fun e w' => e = .returned (.bool (widB W)) ∧ w = w' := by
  by_cases h0 : 16 ≤ W
  · by_cases h1 : W ≤ 256
    · have E := Lib.hid (widB_mk h0 h1)
      go_enter Tryd.func66, Tryd.ntmps66
      go_wp2
      go_ret
      exact ⟨ret_bool E.out.symm, rfl⟩
    · have E := Lib.hid (widB_mk' (W := W) (by omega))
      go_enter Tryd.func66, Tryd.ntmps66
      go_wp2
      go_ret
      exact ⟨ret_bool E.out.symm, rfl⟩
  · have E := Lib.hid (widB_mk' (W := W) (by omega))
    go_enter Tryd.func66, Tryd.ntmps66
    go_wp2
    go_ret
    exact ⟨ret_bool E.out.symm, rfl⟩

set_option maxHeartbeats 400000 in
theorem rsFields_any (W : Int) (w : World) (h0 : 16 ≤ W) (h1 : W ≤ 256) :
    Calls Tryd.prog 86 #[.int .i64 W] w fun e w' => e = .returned (.int .i64 (fieldsI W)) ∧ w = w' := by
  have hf : 120 ≤ (W - 8) * (W - 1) ∧ (W - 8) * (W - 1) ≤ 63240 := fields_bd h0 h1
  go_enter Tryd.func86, Tryd.ntmps86
  go_wp2
  go_ret
  exact ⟨rfl, rfl⟩

set_option maxHeartbeats 400000 in
theorem rsLeaves_any (W n : Int) (w : World) (h0 : 16 ≤ W) (h1 : W ≤ 256) (h3 : n ≤ fieldsI W) (hm : -9223372036854775808 ≤ n) :
    Calls Tryd.prog 68 #[.int .i64 W, .int .i64 n] w fun e w' => e = .returned (.int .i64 (leavesI W n)) ∧ w = w' := by
  have hf := fields_bd h0 h1
  by_cases h : n ≤ W - 8
  · have E := Lib.hid (leaves_small h)
    go_enter Tryd.func68, Tryd.ntmps68
    go_wp2
    go_ret
    exact ⟨ret_int E.out.symm, rfl⟩
  · have L := leaves_big h0 h1 (by omega) h3
    have HL : Hid (∀ k : Int, 0 ≤ k → k ≤ leavesI W n → (k < leavesI W n ↔ k * (W - 1) < n) ∧ 0 ≤ k * (W - 1) ∧ k * (W - 1) ≤ 70000) := Lib.hid (fun k k0 k1 => by
      have h4 := Int.mul_nonneg k0 (show 0 ≤ W - 1 by omega)
      have h5 := leaf_le (m := W - 1) (by omega) k1
      refine ⟨⟨fun hk => ?_, fun hk => ?_⟩, h4, by omega⟩
      · have := leaf_lt (m := W - 1) (by omega) hk
        omega
      · by_cases e : k < leavesI W n
        · exact e
        · have : k = leavesI W n := by omega
          subst this; omega)
    have g1 : leavesI W n ≤ W - 8 := L.2.1
    have g2 : 1 ≤ leavesI W n := L.1
    clear L
    generalize hq : leavesI W n = q at *
    clear hq
    go_enter Tryd.func68, Tryd.ntmps68
    go_wp2
    go_loop [5] (fun i => ∃ k : Int, 0 ≤ k ∧ k ≤ q ∧ i = .int .i64 k) (fun i => (q - intOf i).toNat)
    case atStart => exact ⟨0, Int.le_refl _, by omega, rfl⟩
    case round =>
      obtain ⟨k, k0, k1, rfl⟩ := hrel
      obtain ⟨c1, c2, c3⟩ := HL.out k k0 k1
      by_cases hk : k < q
      · have hk2 := c1.1 hk
        clear c1
        go_wp2
        go_round
        case rel => exact ⟨k + 1, by omega, by omega, rfl⟩
        case measure => simp [intOf]; omega
      · have hk2 : ¬ k * (W - 1) < n := fun h => hk (c1.2 h)
        have e : k = q := by omega
        have HE := Lib.hid e
        clear c1 e
        go_wp2
        go_ret
        exact ⟨ret_int HE.out, rfl⟩

set_option maxHeartbeats 400000 in
theorem rsSize_yes (W p d : Int) (w : World) (h0 : 16 ≤ W) (h1 : W ≤ 256) (h2 : 0 ≤ p) (h3 : 0 ≤ d) (h4 : p + d ≤ fieldsI W) :
    Calls Tryd.prog 67 #[.int .i64 W, .int .i64 p, .int .i64 d] w fun e w' => e = .returned (.bool true) ∧ w = w' := by
  have hf := fields_bd h0 h1
  have g1 : p ≤ fieldsI W := by omega
  have g2 : d ≤ fieldsI W := by omega
  have HF : Hid (∀ w', Calls Tryd.prog 86 #[.int .i64 W] w' fun e w'' => e = .returned (.int .i64 (fieldsI W)) ∧ w' = w'') := Lib.hid (fun w' => rsFields_any W w' h0 h1)
  go_enter Tryd.func67, Tryd.ntmps67
  go_wp2_with fail
  refine (HF.out _).mono ?_
  rintro e w1 ⟨rfl, rfl⟩
  go_wp2_with fail
  refine (HF.out _).mono ?_
  rintro e w1 ⟨rfl, rfl⟩
  go_wp2_with fail
  refine (HF.out _).mono ?_
  rintro e w1 ⟨rfl, rfl⟩
  go_wp2_with fail
  go_ret
  exact ⟨ret_bool (by first | rfl | (simp; done) | (simp; omega)), rfl⟩

set_option maxHeartbeats 400000 in
theorem rsSize_no (W p d : Int) (w : World) (h0 : 16 ≤ W) (h1 : W ≤ 256) (h : p < 0 ∨ d < 0 ∨ fieldsI W < p + d) :
    Calls Tryd.prog 67 #[.int .i64 W, .int .i64 p, .int .i64 d] w fun e w' => e = .returned (.bool false) ∧ w = w' := by
  have hf := fields_bd h0 h1
  have HF : Hid (∀ w', Calls Tryd.prog 86 #[.int .i64 W] w' fun e w'' => e = .returned (.int .i64 (fieldsI W)) ∧ w' = w'') := Lib.hid (fun w' => rsFields_any W w' h0 h1)
  by_cases hp : p < 0
  · go_enter Tryd.func67, Tryd.ntmps67
    go_wp2_with fail
    go_ret
    exact ⟨rfl, rfl⟩
  · by_cases hd : d < 0
    · go_enter Tryd.func67, Tryd.ntmps67
      go_wp2_with fail
      go_ret
      exact ⟨rfl, rfl⟩
    · by_cases hp2 : fieldsI W < p
      · go_enter Tryd.func67, Tryd.ntmps67
        go_wp2_with fail
        refine (HF.out _).mono ?_
        rintro e w1 ⟨rfl, rfl⟩
        go_wp2_with fail
        go_ret
        exact ⟨rfl, rfl⟩
      · by_cases hd2 : fieldsI W < d
        · go_enter Tryd.func67, Tryd.ntmps67
          go_wp2_with fail
          refine (HF.out _).mono ?_
          rintro e w1 ⟨rfl, rfl⟩
          go_wp2_with fail
          refine (HF.out _).mono ?_
          rintro e w1 ⟨rfl, rfl⟩
          go_wp2_with fail
          go_ret
          exact ⟨rfl, rfl⟩
        · have hs : fieldsI W < p + d := by omega
          go_enter Tryd.func67, Tryd.ntmps67
          go_wp2_with fail
          refine (HF.out _).mono ?_
          rintro e w1 ⟨rfl, rfl⟩
          go_wp2_with fail
          refine (HF.out _).mono ?_
          rintro e w1 ⟨rfl, rfl⟩
          go_wp2_with fail
          refine (HF.out _).mono ?_
          rintro e w1 ⟨rfl, rfl⟩
          go_wp2_with fail
          go_ret
          exact ⟨ret_bool (by first | rfl | (simp; done) | (simp; omega)), rfl⟩

set_option maxHeartbeats 400000 in
theorem rsBlocks_any (W p d : Int) (w : World) :
    Calls Tryd.prog 43 #[.int .i64 W, .int .i64 p, .int .i64 d] w fun e w' => e = .returned (.tuple #[.int .i64 (blocksV W p d), .int .i64 (sizeE W p d)]) ∧ w = w' := by
  cases hw : widB W with
  | false =>
    have E1 : sizeE W p d = 1 := by unfold sizeE; rw [hw]; rfl
    have E : Hid (blocksV W p d = 0 ∧ sizeE W p d = 1) := Lib.hid ⟨by unfold blocksV; rw [E1]; rfl, E1⟩
    have HW := Lib.hid hw
    clear hw E1
    go_enter Tryd.func43, Tryd.ntmps43
    go_wp2_with fail
    refine (rsWidth_any _ _).mono ?_
    rw [HW.out]
    rintro e w1 ⟨rfl, rfl⟩
    go_wp2_with fail
    go_ret2
    exact ⟨by rw [E.out.1, E.out.2]; rfl, rfl⟩
  | true =>
    obtain ⟨h0, h1⟩ := widB_yes hw
    by_cases h : p < 0 ∨ d < 0 ∨ fieldsI W < p + d
    · have E1 : sizeE W p d = 3 := by unfold sizeE; rw [if_pos hw, if_pos h]
      have E : Hid (blocksV W p d = 0 ∧ sizeE W p d = 3) := Lib.hid ⟨by unfold blocksV; rw [E1]; rfl, E1⟩
      have HW := Lib.hid hw
      have HS := Lib.hid h
      clear hw E1 h
      go_enter Tryd.func43, Tryd.ntmps43
      go_wp2_with fail
      refine (rsWidth_any _ _).mono ?_
      rw [HW.out]
      rintro e w1 ⟨rfl, rfl⟩
      go_wp2_with fail
      refine (rsSize_no _ _ _ _ h0 h1 HS.out).mono ?_
      rintro e w1 ⟨rfl, rfl⟩
      go_wp2_with fail
      go_ret2
      exact ⟨by rw [E.out.1, E.out.2]; rfl, rfl⟩
    · have E1 : sizeE W p d = 0 := by unfold sizeE; rw [if_pos hw, if_neg h]
      have E : Hid (blocksV W p d = 1 + leavesI W (p + d) ∧ sizeE W p d = 0) := Lib.hid ⟨by unfold blocksV; rw [E1]; rfl, E1⟩
      have h2 : 0 ≤ p := by omega
      have h3 : 0 ≤ d := by omega
      have h4 : p + d ≤ fieldsI W := by omega
      have hf := fields_bd h0 h1
      have L := leaves_bd h0 h1 h4
      have HL : Hid (∀ w', Calls Tryd.prog 68 #[.int .i64 W, .int .i64 (p + d)] w' fun e w'' => e = .returned (.int .i64 (leavesI W (p + d))) ∧ w' = w'') := Lib.hid (fun w' => rsLeaves_any W _ w' h0 h1 h4 (by omega))
      have HW := Lib.hid hw
      clear hw E1 h
      go_enter Tryd.func43, Tryd.ntmps43
      go_wp2_with fail
      refine (rsWidth_any _ _).mono ?_
      rw [HW.out]
      rintro e w1 ⟨rfl, rfl⟩
      go_wp2_with fail
      refine (rsSize_yes _ _ _ _ h0 h1 h2 h3 h4).mono ?_
      rintro e w1 ⟨rfl, rfl⟩
      go_wp2_with fail
      refine (HL.out _).mono ?_
      rintro e w1 ⟨rfl, rfl⟩
      go_wp2_with fail
      go_ret2
      exact ⟨by rw [E.out.1, E.out.2]; rfl, rfl⟩

end Go.Proofs.YtlgkgijgnmancaaDoor.Pk
