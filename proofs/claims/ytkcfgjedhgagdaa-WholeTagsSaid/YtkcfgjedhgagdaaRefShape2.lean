/-
  What the document's functions of layer 7 return that go through all fields.
-/
import Derived.Test.YtkcfgjedhgagdaaRefShape
namespace Go.Proofs.Ytkcfgjedhgagdaa.Pk
open Go.RowKit
set_option linter.unusedVariables false
set_option linter.unusedSimpArgs false

theorem beq_of {a b : Int} (h : a = b) : (a == b) = true := by subst h; exact beq_self_eq_true a

/-- What the document's Back returns. -/
def RBackPost (W n l a : Int) (w : World) (e : Ending) (w' : World) : Prop :=
  e = .returned (.tuple #[.int .i64 (backV W n l a), .int .i64 (backE W n l a)]) ∧ Drw w w'

set_option maxHeartbeats 1000000 in
theorem rsBack_any (W n l a : Int) (w : World) :
    Calls Try.prog 17 #[.int .i64 W, .int .i64 n, .int .i64 l, .int .i64 a] w (RBackPost W n l a w) := by
  by_cases he : wrongE W n = 0
  · obtain ⟨h0, h1, h2, h3⟩ := wrongE_ok he
    have hf := fields_bd h0 h1
    have HE := Lib.hid he
    clear he
    go_enter Try.func17, Try.ntmps17
    go_wp2_with fail
    refine (rsWrong_any _ _ _).mono ?_
    rw [HE.out]
    rintro e w1 ⟨rfl, rfl⟩
    go_wp2_with fail
    go_loopw [11] (fun i wr => ∃ k : Int, 0 ≤ k ∧ k ≤ n ∧ i = .int .i64 k ∧ Drw w wr ∧ ∀ j, 0 ≤ j → j < k → ¬ (placeL W n j = l ∧ placeO W n j = a)) (fun i _ => (n - intOf i).toNat)
    case atStart => exact ⟨0, Int.le_refl _, h2, rfl, Drw.refl _, fun j h h' => by omega⟩
    case round =>
      obtain ⟨k, k0, k1, rfl, hd, hno⟩ := hrel
      have HN := Lib.hid hno
      clear hno
      have HD := Lib.hid hd
      clear hd
      by_cases hk : k < n
      · have HP := Lib.hid (placeE_mk HE.out k0 hk)
        by_cases ml : placeL W n k = l
        · have gl := beq_of ml
          by_cases ma : placeO W n k = a
          · have ga := beq_of ma
            have E := Lib.hid (back_some HP.out ⟨ml, ma⟩)
            clear ml ma
            go_wp2_with fail
            refine (rsPlace_any _ _ _ _).mono ?_
            rintro e w1 ⟨rfl, hd1⟩
            have HD1 := Lib.hid hd1
            clear hd1
            go_wp2_with fail
            go_ret2
            exact ⟨by rw [E.out.1, E.out.2]; rfl, by obtain ⟨m, rfl⟩ := HD.out; obtain ⟨m', rfl⟩ := HD1.out; exact ⟨m + m', World.drewN_drewN _ _ _⟩⟩
          · have ga := bne_of ma
            have MA := Lib.hid ma
            clear ml ma
            go_wp2_with fail
            refine (rsPlace_any _ _ _ _).mono ?_
            rintro e w1 ⟨rfl, hd1⟩
            have HD1 := Lib.hid hd1
            clear hd1
            go_wp2_with fail
            go_roundw
            case rel => exact ⟨k + 1, by omega, by omega, rfl, by obtain ⟨m, rfl⟩ := HD.out; obtain ⟨m', rfl⟩ := HD1.out; exact ⟨m + m', World.drewN_drewN _ _ _⟩, fun j j0 j1 => by
              by_cases e : j = k
              · subst e; exact fun h => MA.out h.2
              · exact HN.out j j0 (by omega)⟩
            case measure => simp [intOf]; omega
        · have gl := bne_of ml
          have ML := Lib.hid ml
          clear ml
          go_wp2_with fail
          refine (rsPlace_any _ _ _ _).mono ?_
          rintro e w1 ⟨rfl, hd1⟩
          have HD1 := Lib.hid hd1
          clear hd1
          go_wp2_with fail
          go_roundw
          case rel => exact ⟨k + 1, by omega, by omega, rfl, by obtain ⟨m, rfl⟩ := HD.out; obtain ⟨m', rfl⟩ := HD1.out; exact ⟨m + m', World.drewN_drewN _ _ _⟩, fun j j0 j1 => by
            by_cases e : j = k
            · subst e; exact fun h => ML.out h.1
            · exact HN.out j j0 (by omega)⟩
          case measure => simp [intOf]; omega
      · have E1 := back_none HE.out (fun j j0 j1 => HN.out j j0 (by omega))
        have E : Hid (backV W n l a = 0 ∧ backE W n l a = 7) := Lib.hid ⟨backV_no (by rw [E1]; decide), E1⟩
        clear E1
        go_wp2_with fail
        go_ret2
        exact ⟨by rw [E.out.1, E.out.2]; rfl, HD.out⟩
  · have e1 : backE W n l a = wrongE W n := by unfold backE; rw [if_neg he]
    have e2 := backV_no (W := W) (n := n) (l := l) (a := a) (by rw [e1]; exact he)
    have E : Hid (backV W n l a = 0 ∧ backE W n l a = wrongE W n) := Lib.hid ⟨e2, e1⟩
    clear e1 e2
    have g := bne_of he
    clear he
    go_enter Try.func17, Try.ntmps17
    go_wp2_with fail
    refine (rsWrong_any _ _ _).mono ?_
    rintro e w1 ⟨rfl, rfl⟩
    go_wp2_with fail
    go_ret2
    exact ⟨by rw [E.out.1, E.out.2]; rfl, Drw.refl _⟩

set_option maxHeartbeats 1000000 in
theorem rsFull_any (W n l : Int) (w : World) :
    Calls Try.prog 19 #[.int .i64 W, .int .i64 n, .int .i64 l] w fun e w' => e = .returned (.int .i64 (fullV W n l)) ∧ Drw w w' := by
  by_cases he : wrongE W n = 0
  · obtain ⟨h0, h1, h2, h3⟩ := wrongE_ok he
    have hf := fields_bd h0 h1
    have HZ := Lib.hid (fullTo_zero (l := l) he)
    have HE := Lib.hid he
    clear he
    go_enter Try.func19, Try.ntmps19
    go_wp2_with fail
    refine (rsWrong_any _ _ _).mono ?_
    rw [HE.out]
    rintro e w1 ⟨rfl, rfl⟩
    go_wp2_with fail
    go_loopw [7, 8] (fun m i wr => ∃ k : Int, 0 ≤ k ∧ k ≤ n ∧ i = .int .i64 k ∧ m = .int .i64 (fullTo W n l k) ∧ Drw w wr) (fun _ i _ => (n - intOf i).toNat)
    case atStart => exact ⟨0, Int.le_refl _, h2, rfl, by rw [HZ.out], Drw.refl _⟩
    case round =>
      obtain ⟨k, k0, k1, rfl, rfl, hd⟩ := hrel
      have HD := Lib.hid hd
      clear hd
      have hb := fullTo_bd (l := l) HE.out k0
      by_cases hk : k < n
      · have HP := Lib.hid (placeE_mk HE.out k0 hk)
        by_cases ml : placeL W n k = l
        · have gl := beq_of ml
          have E := Lib.hid (fullTo_yes HP.out ml)
          clear ml
          go_wp2_with fail
          refine (rsPlace_any _ _ _ _).mono ?_
          rintro e w1 ⟨rfl, hd1⟩
          have HD1 := Lib.hid hd1
          clear hd1
          go_wp2_with fail
          go_roundw
          case rel => exact ⟨k + 1, by omega, by omega, rfl, by rw [E.out], by obtain ⟨m, rfl⟩ := HD.out; obtain ⟨m', rfl⟩ := HD1.out; exact ⟨m + m', World.drewN_drewN _ _ _⟩⟩
          case measure => simp [intOf]; omega
        · have gl := bne_of ml
          have E := Lib.hid (fullTo_no HP.out ml)
          clear ml
          go_wp2_with fail
          refine (rsPlace_any _ _ _ _).mono ?_
          rintro e w1 ⟨rfl, hd1⟩
          have HD1 := Lib.hid hd1
          clear hd1
          go_wp2_with fail
          go_roundw
          case rel => exact ⟨k + 1, by omega, by omega, rfl, by rw [E.out], by obtain ⟨m, rfl⟩ := HD.out; obtain ⟨m', rfl⟩ := HD1.out; exact ⟨m + m', World.drewN_drewN _ _ _⟩⟩
          case measure => simp [intOf]; omega
      · have e : k = n := by omega
        have E : Hid (fullTo W n l k = fullV W n l) := Lib.hid (by rw [e, fullTo_all HE.out])
        clear e
        go_wp2_with fail
        go_ret
        exact ⟨ret_int E.out, HD.out⟩
  · have E : Hid (fullV W n l = 0) := Lib.hid (by unfold fullV; rw [if_neg he])
    have g := bne_of he
    clear he
    go_enter Try.func19, Try.ntmps19
    go_wp2_with fail
    refine (rsWrong_any _ _ _).mono ?_
    rintro e w1 ⟨rfl, rfl⟩
    go_wp2_with fail
    go_ret
    exact ⟨ret_int E.out.symm, Drw.refl _⟩

set_option maxHeartbeats 1000000 in
theorem rsLargest_any (W b : Int) (w : World) (hb0 : -9223372036854775808 ≤ b) :
    Calls Try.prog 21 #[.int .i64 W, .int .i64 b] w fun e w' => e = .returned (.int .i64 (largestV W b)) ∧ w = w' := by
  cases hw : widB W with
  | false =>
    have E : Hid (largestV W b = 0) := Lib.hid (by unfold largestV; rw [hw]; rfl)
    have HW := Lib.hid hw
    clear hw
    go_enter Try.func21, Try.ntmps21
    go_wp2_with fail
    refine (rsWidth_any _ _).mono ?_
    rw [HW.out]
    rintro e w1 ⟨rfl, rfl⟩
    go_wp2_with fail
    go_ret
    exact ⟨ret_int E.out.symm, rfl⟩
  | true =>
    obtain ⟨h0, h1⟩ := widB_yes hw
    by_cases hb : b < 1
    · have E : Hid (largestV W b = 0) := Lib.hid (by unfold largestV; rw [if_pos hw, if_pos (Or.inl hb)])
      have HW := Lib.hid hw
      clear hw
      go_enter Try.func21, Try.ntmps21
      go_wp2_with fail
      refine (rsWidth_any _ _).mono ?_
      rw [HW.out]
      rintro e w1 ⟨rfl, rfl⟩
      go_wp2_with fail
      go_ret
      exact ⟨ret_int E.out.symm, rfl⟩
    · by_cases hb1 : W - 7 < b
      · have E : Hid (largestV W b = 0) := Lib.hid (by unfold largestV; rw [if_pos hw, if_pos (Or.inr hb1)])
        have HW := Lib.hid hw
        clear hw
        go_enter Try.func21, Try.ntmps21
        go_wp2_with fail
        refine (rsWidth_any _ _).mono ?_
        rw [HW.out]
        rintro e w1 ⟨rfl, rfl⟩
        go_wp2_with fail
        go_ret
        exact ⟨ret_int E.out.symm, rfl⟩
      · have HW := Lib.hid hw
        have hf := fields_bd h0 h1
        have HF : Hid (∀ w', Calls Try.prog 46 #[.int .i64 W] w' fun e w'' => e = .returned (.int .i64 (fieldsI W)) ∧ w' = w'') := Lib.hid (fun w' => rsFields_any W w' h0 h1)
        have HZ := Lib.hid (mostTo_zero (b := b - 1) h0 h1 (by omega) (by omega))
        have HA := Lib.hid (mostTo_all (b := b) h0 h1 (by omega) (by omega))
        clear hw
        go_enter Try.func21, Try.ntmps21
        go_wp2_with fail
        refine (rsWidth_any _ _).mono ?_
        rw [HW.out]
        rintro e w1 ⟨rfl, rfl⟩
        go_wp2_with fail
        go_loop [5, 6] (fun m i => ∃ k : Int, 0 ≤ k ∧ k ≤ fieldsI W + 1 ∧ i = .int .i64 k ∧ m = .int .i64 (mostTo W (b - 1) k)) (fun _ i => (fieldsI W + 1 - intOf i).toNat)
        case atStart => exact ⟨0, Int.le_refl _, by omega, rfl, by rw [HZ.out]⟩
        case round =>
          obtain ⟨k, k0, k1, rfl, rfl⟩ := hrel
          by_cases hk : k ≤ fieldsI W
          · have L := leaves_bd h0 h1 hk
            have HL : Hid (∀ w', Calls Try.prog 34 #[.int .i64 W, .int .i64 k] w' fun e w'' => e = .returned (.int .i64 (leavesI W k)) ∧ w' = w'') := Lib.hid (fun w' => rsLeaves_any W k w' h0 h1 hk (by omega))
            by_cases ml : leavesI W k = b - 1
            · have gl := beq_of (show 1 + leavesI W k = b by omega)
              have E := Lib.hid (mostTo_yes h0 h1 (by omega) (by omega) k0 hk ml)
              clear ml
              go_wp2_with fail
              refine (HF.out _).mono ?_
              rintro e w1 ⟨rfl, rfl⟩
              go_wp2_with fail
              refine (HL.out _).mono ?_
              rintro e w1 ⟨rfl, rfl⟩
              go_wp2_with fail
              go_round
              case rel => exact ⟨k + 1, by omega, by omega, rfl, by rw [E.out]⟩
              case measure => simp [intOf]; omega
            · have gl := bne_of (show 1 + leavesI W k ≠ b by omega)
              have E := Lib.hid (mostTo_no h0 h1 (by omega) (by omega) k0 hk ml)
              clear ml
              go_wp2_with fail
              refine (HF.out _).mono ?_
              rintro e w1 ⟨rfl, rfl⟩
              go_wp2_with fail
              refine (HL.out _).mono ?_
              rintro e w1 ⟨rfl, rfl⟩
              go_wp2_with fail
              go_round
              case rel => exact ⟨k + 1, by omega, by omega, rfl, by rw [E.out]⟩
              case measure => simp [intOf]; omega
          · have e : k = fieldsI W + 1 := by omega
            have E : Hid (mostTo W (b - 1) k = largestV W b) := Lib.hid (by rw [e, HA.out])
            clear e
            go_wp2_with fail
            refine (HF.out _).mono ?_
            rintro e w1 ⟨rfl, rfl⟩
            go_wp2_with fail
            go_ret
            exact ⟨ret_int E.out, rfl⟩

end Go.Proofs.Ytkcfgjedhgagdaa.Pk
