/-
  What the inner functions of package shape return.
-/
import Derived.Test.YtljdbaddockfcaaGreatProg
import Derived.Test.YtljdbaddockfcaaGreatBaseEtc
import Derived.Test.YtljdbaddockfcaaGreatPlanFn
import Derived.IntWalk
import Derived.Lib.MinMax
namespace Go.Proofs.YtljdbaddockfcaaGreat.Pk
open Go.RowKit
set_option linter.unusedVariables false
set_option linter.unusedSimpArgs false

set_option maxHeartbeats 400000 in
theorem shWidth_any (W : Int) (w : World) :
    Calls Tryz.prog 174 #[.int .i64 W] w fun e w' => e = .returned (.bool (widB W)) ∧ w = w' := by
  by_cases h0 : 16 ≤ W
  · by_cases h1 : W ≤ 256
    · have E := Lib.hid (widB_mk h0 h1)
      go_enter Tryz.func174, Tryz.ntmps174
      go_wp2
      go_ret
      exact ⟨ret_bool E.out.symm, rfl⟩
    · have E := Lib.hid (widB_mk' (W := W) (by omega))
      go_enter Tryz.func174, Tryz.ntmps174
      go_wp2
      go_ret
      exact ⟨ret_bool E.out.symm, rfl⟩
  · have E := Lib.hid (widB_mk' (W := W) (by omega))
    go_enter Tryz.func174, Tryz.ntmps174
    go_wp2
    go_ret
    exact ⟨ret_bool E.out.symm, rfl⟩

set_option maxHeartbeats 400000 in
theorem shMostLeaves_any (W : Int) (w : World) (h0 : 16 ≤ W) (h1 : W ≤ 256) :
    Calls Tryz.prog 207 #[.int .i64 W] w fun e w' => e = .returned (.int .i64 (W - 8)) ∧ w = w' := by
  go_enter Tryz.func207, Tryz.ntmps207
  go_wp2
  go_ret
  exact ⟨ret_int (by go_num), rfl⟩

set_option maxHeartbeats 400000 in
theorem shPerLeaf_any (W : Int) (w : World) (h0 : 16 ≤ W) (h1 : W ≤ 256) :
    Calls Tryz.prog 179 #[.int .i64 W] w fun e w' => e = .returned (.int .i64 (W - 1)) ∧ w = w' := by
  go_enter Tryz.func179, Tryz.ntmps179
  go_wp2
  go_ret
  exact ⟨ret_int (by go_num), rfl⟩

set_option maxHeartbeats 400000 in
theorem shMostSmall_any (W : Int) (w : World) (h0 : 16 ≤ W) (h1 : W ≤ 256) :
    Calls Tryz.prog 208 #[.int .i64 W] w fun e w' => e = .returned (.int .i64 (W - 8)) ∧ w = w' := by
  go_enter Tryz.func208, Tryz.ntmps208
  go_wp2_with fail
  refine (shMostLeaves_any _ _ h0 h1).mono ?_
  rintro e w1 ⟨rfl, rfl⟩
  go_wp2_with fail
  go_ret
  exact ⟨rfl, rfl⟩

set_option maxHeartbeats 400000 in
theorem shIsSmall_yes (W n : Int) (w : World) (h0 : 16 ≤ W) (h1 : W ≤ 256) (h : n ≤ W - 8) :
    Calls Tryz.prog 177 #[.int .i64 W, .int .i64 n] w fun e w' => e = .returned (.bool true) ∧ w = w' := by
  go_enter Tryz.func177, Tryz.ntmps177
  go_wp2_with fail
  refine (shMostSmall_any _ _ h0 h1).mono ?_
  rintro e w1 ⟨rfl, rfl⟩
  go_wp2_with fail
  go_ret
  exact ⟨ret_bool (by first | rfl | (simp; done) | (simp; omega)), rfl⟩

set_option maxHeartbeats 400000 in
theorem shIsSmall_no (W n : Int) (w : World) (h0 : 16 ≤ W) (h1 : W ≤ 256) (h : W - 8 < n) :
    Calls Tryz.prog 177 #[.int .i64 W, .int .i64 n] w fun e w' => e = .returned (.bool false) ∧ w = w' := by
  go_enter Tryz.func177, Tryz.ntmps177
  go_wp2_with fail
  refine (shMostSmall_any _ _ h0 h1).mono ?_
  rintro e w1 ⟨rfl, rfl⟩
  go_wp2_with fail
  go_ret
  exact ⟨ret_bool (by first | rfl | (simp; done) | (simp; omega)), rfl⟩

set_option maxHeartbeats 400000 in
theorem shMostFields_any (W : Int) (w : World) (h0 : 16 ≤ W) (h1 : W ≤ 256) :
    Calls Tryz.prog 176 #[.int .i64 W] w fun e w' => e = .returned (.int .i64 (fieldsI W)) ∧ Below w.heap.size w w' := by
  have E : Hid (mulL [W - 8, W - 1] = fieldsI W) := Lib.hid (mul2_id (by omega) (by omega) (by omega) (by omega) (by have := fields_bd h0 h1; have : (W - 8) * (W - 1) = fieldsI W := rfl; omega))
  go_enter Tryz.func176, Tryz.ntmps176
  go_wp2_with fail
  refine (shMostLeaves_any _ _ h0 h1).mono ?_
  rintro e w1 ⟨rfl, rfl⟩
  go_wp2_with fail
  refine (shPerLeaf_any _ _ h0 h1).mono ?_
  rintro e w1 ⟨rfl, rfl⟩
  go_wp2_with fail
  refine (eqIv (mul2_lit _ _ _ _ (by simp)) E.out).mono ?_
  rintro e w1 ⟨rfl, rfl⟩
  go_wp2_with fail
  go_ret
  exact ⟨rfl, below_new _ _⟩

set_option maxHeartbeats 400000 in
theorem shLeavesOf_any (W n : Int) (w : World) (h0 : 16 ≤ W) (h1 : W ≤ 256) (h2 : 0 ≤ n) (h3 : n ≤ fieldsI W) :
    Calls Tryz.prog 129 #[.int .i64 W, .int .i64 n] w fun e w' => e = .returned (.int .i64 (leavesI W n)) ∧ w = w' := by
  have hf := fields_bd h0 h1
  by_cases h : n ≤ W - 8
  · have E := Lib.hid (leaves_small h)
    go_enter Tryz.func129, Tryz.ntmps129
    go_wp2_with fail
    refine (shIsSmall_yes _ _ _ h0 h1 h).mono ?_
    rintro e w1 ⟨rfl, rfl⟩
    go_wp2_with fail
    go_ret
    exact ⟨ret_int (by rw [E.out]), rfl⟩
  · have E : Hid (upI n (W - 1) = leavesI W n) := Lib.hid (by rw [up_id h2 (by omega) (by omega) (by omega)]; unfold leavesI; rw [if_neg h]; rfl)
    go_enter Tryz.func129, Tryz.ntmps129
    go_wp2_with fail
    refine (shIsSmall_no _ _ _ h0 h1 (by omega)).mono ?_
    rintro e w1 ⟨rfl, rfl⟩
    go_wp2_with fail
    refine (shPerLeaf_any _ _ h0 h1).mono ?_
    rintro e w1 ⟨rfl, rfl⟩
    go_wp2_with fail
    refine (up_any _ _ _).mono ?_
    rintro e w1 ⟨rfl, rfl⟩
    go_wp2_with fail
    go_ret
    exact ⟨ret_int (by rw [E.out]), rfl⟩

set_option maxHeartbeats 400000 in
theorem shStart_any (l : Int) (w : World) :
    Calls Tryz.prog 204 #[.int .i64 l] w fun e w' => e = .returned (.int .i64 (startI l)) ∧ w = w' := by
  by_cases h : l = -1
  · subst h
    go_enter Tryz.func204, Tryz.ntmps204
    go_wp2
    go_ret
    exact ⟨rfl, rfl⟩
  · have E : Hid (startI l = 1) := Lib.hid (by unfold startI; rw [if_neg h])
    have g := bne_of h
    go_enter Tryz.func204, Tryz.ntmps204
    go_wp2
    go_ret
    exact ⟨ret_int (by rw [E.out]), rfl⟩

set_option maxHeartbeats 400000 in
theorem shAhead_any (W l : Int) (w : World) (h0 : 16 ≤ W) (h1 : W ≤ 256) :
    Calls Tryz.prog 205 #[.int .i64 W, .int .i64 l] w fun e w' => e = .returned (.int .i64 (aheadI W l)) ∧ Below w.heap.size w w' := by
  go_enter Tryz.func205, Tryz.ntmps205
  go_wp2_with fail
  refine (shPerLeaf_any _ _ h0 h1).mono ?_
  rintro e w1 ⟨rfl, rfl⟩
  go_wp2_with fail
  refine (mul2_lit _ _ _ _ (by simp)).mono ?_
  rintro e w1 ⟨rfl, rfl⟩
  go_wp2_with fail
  go_ret
  exact ⟨rfl, below_new _ _⟩

/-! ### How many fields an object of those sizes has -/
set_option maxHeartbeats 400000 in
theorem shTogether_conf (W : Int) (a : Option Addr) (len cap : Nat) (w : World) (h : widB W = false) :
    Calls Tryz.prog 128 #[.int .i64 W, .slice a len cap] w fun e w' => e = .returned (.tuple #[.int .i64 0, .int .i64 1]) ∧ w = w' := by
  go_enter Tryz.func128, Tryz.ntmps128
  go_wp2_with fail
  refine (shWidth_any _ _).mono ?_
  rw [h]
  rintro e w1 ⟨rfl, rfl⟩
  go_wp2_with fail
  go_ret2
  exact ⟨rfl, rfl⟩

/-- Are the sizes such that no object has them? -/
def TogX (W : Int) (zs : List Int) : Prop := (∃ j, j < zs.length ∧ nth zs j < 0) ∨ fieldsI W < addL zs
def TogPost (W : Int) (zs : List Int) (w : World) (e : Ending) (w' : World) : Prop :=
  (TogX W zs → e = .returned (.tuple #[.int .i64 0, .int .i64 3])) ∧ (¬ TogX W zs → e = .returned (.tuple #[.int .i64 (addL zs), .int .i64 0])) ∧ Below w.heap.size w w'

set_option maxHeartbeats 1000000 in
theorem shTogether_loop (W : Int) (a : Option Addr) (cap : Nat) (zs : List Int) (w : World) (h0 : 16 ≤ W) (h1 : W ≤ 256) (hrow : Row w .i64 a zs) (hlen : (zs.length : Int) ≤ 9223372036854775807) :
    Calls Tryz.prog 128 #[.int .i64 W, .slice a zs.length cap] w (TogPost W zs w) := by
  have E := Lib.hid (widB_mk h0 h1)
  go_enter Tryz.func128, Tryz.ntmps128
  go_wp2_with fail
  refine (shWidth_any _ _).mono ?_
  rw [E.out]
  rintro e w1 ⟨rfl, rfl⟩
  go_wp2_with fail
  go_loop [7, 14] (fun _ i => ∃ k : Nat, k ≤ zs.length ∧ i = .int .i64 k ∧ ∀ j, j < k → ¬ nth zs j < 0) (fun _ i => zs.length - (intOf i).toNat)
  case atStart => exact ⟨0, Nat.zero_le _, rfl, fun j h => absurd h (Nat.not_lt_zero _)⟩
  case round =>
    obtain ⟨k, hk, rfl, hnn⟩ := hrel
    have HN := Lib.hid hnn
    clear hnn
    by_cases hlt : k < zs.length
    · obtain ⟨b, off, rfl, hb, hc⟩ := hrow k hlt
      by_cases hneg : nth zs k < 0
      · have HX : Hid (TogX W zs) := Lib.hid (Or.inl ⟨k, hlt, hneg⟩)
        go_wp2_with fail
        go_ret2
        exact ⟨fun _ => rfl, fun h => absurd HX.out h, Below.refl _ _⟩
      · have HK := Lib.hid hneg
        go_wp2_with fail
        go_round
        case rel => exact ⟨k + 1, by omega, by go_num, fun j hj => by
          by_cases e : j = k
          · subst e; exact HK.out
          · exact HN.out j (by omega)⟩
        case measure => simp [intOf]; omega
    · have e : k = zs.length := by omega
      have HS : Hid (¬ ∃ j, j < zs.length ∧ nth zs j < 0) := Lib.hid (fun ⟨j, hj, hn⟩ => HN.out j (by omega) hn)
      have hal := addL_bd zs
      have HA : Hid (∀ w', Row w' .i64 a zs → Calls Tryz.prog 175 #[.slice a zs.length cap] w' fun e w'' => e = .returned (.int .i64 (addL zs)) ∧ w' = w'') := Lib.hid (fun w' hr => add_any a cap zs w' hr hlen)
      have HR := Lib.hid hrow
      have HF : Hid (∀ w', Calls Tryz.prog 176 #[.int .i64 W] w' fun e w'' => e = .returned (.int .i64 (fieldsI W)) ∧ Below w'.heap.size w' w'') := Lib.hid (fun w' => shMostFields_any W w' h0 h1)
      have hfb := fields_bd h0 h1
      clear e hrow
      by_cases hs : fieldsI W < addL zs
      · have HX : Hid (TogX W zs) := Lib.hid (Or.inr hs)
        go_wp2_with fail
        refine (HA.out _ HR.out).mono ?_
        rintro e w1 ⟨rfl, rfl⟩
        go_wp2_with fail
        refine (HF.out _).mono ?_
        rintro e w1 ⟨rfl, hb⟩
        have HB := Lib.hid hb
        clear hb
        go_wp2_with fail
        go_ret2
        exact ⟨fun _ => rfl, fun h => absurd HX.out h, HB.out⟩
      · have HX : Hid (¬ TogX W zs) := Lib.hid (fun h => h.elim HS.out hs)
        go_wp2_with fail
        refine (HA.out _ HR.out).mono ?_
        rintro e w1 ⟨rfl, rfl⟩
        go_wp2_with fail
        refine (HF.out _).mono ?_
        rintro e w1 ⟨rfl, hb⟩
        have HB := Lib.hid hb
        clear hb
        go_wp2_with fail
        go_ret2
        exact ⟨fun h => absurd h HX.out, fun _ => rfl, HB.out⟩

/-- One number of fields. -/
theorem shTogether1_any (W n : Int) (w : World) (m : Nat) (hm : m = w.heap.size) :
    Calls Tryz.prog 128 #[.int .i64 W, .slice (some ⟨m, 0, none⟩) 1 1] (w.alloc (.cells #[.int .i64 n] 3)) fun e w' => e = .returned (.tuple #[.int .i64 (if wrongE W n = 0 then n else 0), .int .i64 (wrongE W n)]) ∧ Below w.heap.size w w' := by
  subst hm
  cases hw : widB W with
  | false =>
    have e1 : wrongE W n = 1 := by unfold wrongE; rw [hw]; rfl
    rw [e1]
    refine (shTogether_conf W _ 1 1 _ hw).mono ?_
    rintro e w1 ⟨rfl, rfl⟩
    exact ⟨rfl, below_new _ _⟩
  | true =>
    obtain ⟨h0, h1⟩ := widB_yes hw
    refine (shTogether_loop W (some ⟨w.heap.size, 0, none⟩) 1 [n] _ h0 h1 (Row.lit w .i64 [n] 3) (by simp)).mono ?_
    rintro e w1 ⟨hA, hB, hb⟩
    refine ⟨?_, below_step (below_new _ _) hb⟩
    have hsum : addL [n] = cnt n := by show cnt (0 + cnt n) = cnt n; rw [Int.zero_add, cnt_id (cnt_bd n).1 (cnt_bd n).2]
    have hf := fields_bd h0 h1
    by_cases hx : n < 0 ∨ fieldsI W < n
    · have e1 : wrongE W n = 3 := by unfold wrongE; rw [if_pos hw, if_pos hx]
      rw [e1]
      apply hA
      rcases hx with hx | hx
      · exact Or.inl ⟨0, by simp, hx⟩
      · right; rw [hsum, cnt_min]; omega
    · have e1 : wrongE W n = 0 := by unfold wrongE; rw [if_pos hw, if_neg hx]
      rw [e1, if_pos rfl]
      rw [hB, hsum, cnt_id (by omega) (by omega)]
      rintro (⟨j, hj, hn⟩ | hx2)
      · have : j = 0 := by simp at hj; exact hj
        subst this
        have : n < 0 := hn
        omega
      · rw [hsum, cnt_min] at hx2; omega

/-- Pointer fields and words. -/
theorem shTogether2_any (W p d : Int) (w : World) (m : Nat) (hm : m = w.heap.size) :
    Calls Tryz.prog 128 #[.int .i64 W, .slice (some ⟨m, 0, none⟩) 2 2] (w.alloc (.cells #[.int .i64 p, .int .i64 d] 3)) fun e w' => e = .returned (.tuple #[.int .i64 (if sizeE W p d = 0 then p + d else 0), .int .i64 (sizeE W p d)]) ∧ Below w.heap.size w w' := by
  subst hm
  cases hw : widB W with
  | false =>
    have e1 : sizeE W p d = 1 := by unfold sizeE; rw [hw]; rfl
    rw [e1]
    refine (shTogether_conf W _ 2 2 _ hw).mono ?_
    rintro e w1 ⟨rfl, rfl⟩
    exact ⟨rfl, below_new _ _⟩
  | true =>
    obtain ⟨h0, h1⟩ := widB_yes hw
    refine (shTogether_loop W (some ⟨w.heap.size, 0, none⟩) 2 [p, d] _ h0 h1 (Row.lit w .i64 [p, d] 3) (by simp)).mono ?_
    rintro e w1 ⟨hA, hB, hb⟩
    refine ⟨?_, below_step (below_new _ _) hb⟩
    have hsum : addL [p, d] = min 1125899906842624 (cnt p + cnt d) := by
      have := cnt_bd p; have := cnt_bd d
      rw [addL_two, cnt_min (cnt p + cnt d)]; omega
    have cp := cnt_min p; have cd := cnt_min d
    have hf := fields_bd h0 h1
    by_cases hx : p < 0 ∨ d < 0 ∨ fieldsI W < p + d
    · have e1 : sizeE W p d = 3 := by unfold sizeE; rw [if_pos hw, if_pos hx]
      rw [e1]
      apply hA
      rcases hx with hx | hx | hx
      · exact Or.inl ⟨0, by simp, hx⟩
      · exact Or.inl ⟨1, by simp, hx⟩
      · by_cases hp : p < 0
        · exact Or.inl ⟨0, by simp, hp⟩
        · by_cases hd : d < 0
          · exact Or.inl ⟨1, by simp, hd⟩
          · right; rw [hsum]; omega
    · have e1 : sizeE W p d = 0 := by unfold sizeE; rw [if_pos hw, if_neg hx]
      rw [e1, if_pos rfl]
      have e2 : addL [p, d] = p + d := by rw [hsum]; omega
      rw [hB, e2]
      rintro (⟨j, hj, hn⟩ | hx2)
      · have : j = 0 ∨ j = 1 := by simp at hj; omega
        rcases this with rfl | rfl
        · have : p < 0 := hn
          omega
        · have : d < 0 := hn
          omega
      · rw [e2] at hx2; omega

end Go.Proofs.YtljdbaddockfcaaGreat.Pk
