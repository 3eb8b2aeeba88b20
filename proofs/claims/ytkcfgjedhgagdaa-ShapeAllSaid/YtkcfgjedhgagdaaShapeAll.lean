/- The statement ShapeAll holds for every input: all that lie in the head and in the leaves are all fields; one field more never takes fewer blocks, and just what is above Largest takes more. No condition. -/
import Derived.Test.YtkcfgjedhgagdaaRows
import Derived.Test.YtkcfgjedhgagdaaBegun7
import Derived.WalkKit
import Derived.ProofKit
import Derived.OpenShut
import Derived.ChangeOld
import Derived.Carry
import Derived.Lib.SmallJoins
import Derived.ChangeMaps5
namespace Go.Proofs.Ytkcfgjedhgagdaa.shapeAll
open Go.ChangeShapes Go.WideShapes Go.ChangeAt Go.RowKit Go.Joins
open Go.Proofs.Ytkcfgjedhgagdaa.Pk
set_option linter.unusedVariables false
set_option linter.unusedSimpArgs false

theorem own : ownKnob Try.prog.godebug = none := by kernel_rfl
theorem laidOut : laidOutB Try.prog = true := by kernel_rfl

set_option maxHeartbeats 400000 in
theorem walk_wide (W n : Int) (w : World) (hw1 : 40 < W) (hw2 : W ≤ 256) :
    Calls Try.prog 7 #[.int .i64 W, .int .i64 n] w fun e w' => e = .returned (.bool true) ∧ Below w.heap.size w w' := by
  go_enter Try.func7, Try.ntmps7
  go_wp2_with fail
  refine (wide_yes _ _ hw1 hw2).mono ?_
  rintro e w1 ⟨rfl, rfl⟩
  go_wp2_with fail
  refine (begun7_any _).mono ?_
  rintro e w3 ⟨rfl, hb⟩
  have HB3 := Lib.hid hb
  clear hb
  go_wp2_with fail
  go_ret
  exact ⟨rfl, HB3.out⟩

set_option maxHeartbeats 400000 in
theorem walk_wrong (W n : Int) (w : World) (hw : ¬ (40 < W ∧ W ≤ 256)) (he : sizeE W n 0 ≠ 0) :
    Calls Try.prog 7 #[.int .i64 W, .int .i64 n] w fun e w' => e = .returned (.bool true) ∧ Below w.heap.size w w' := by
  have HW := Lib.hid hw
  have g := bne_of he
  have E : Hid (blocksV W n 0 = 0) := Lib.hid (by unfold blocksV; rw [if_neg he])
  clear hw he
  go_enter Try.func7, Try.ntmps7
  go_wp2_with fail
  refine (wide_no _ _ HW.out).mono ?_
  rintro e w1 ⟨rfl, rfl⟩
  go_wp2_with fail
  refine (blocks_lit W n 0 0 _ _ E.out rfl).mono ?_
  rintro e w1 ⟨rfl, hb⟩
  have HB1 := Lib.hid hb
  clear hb
  go_wp2_with fail
  refine (begun7_any _).mono ?_
  rintro e w3 ⟨rfl, hb⟩
  have HB3 := Lib.hid (below_step HB1.out hb)
  clear hb
  go_wp2_with fail
  go_ret
  exact ⟨rfl, HB3.out⟩

set_option maxHeartbeats 2000000 in
theorem walk_ok (W n L more f top : Int) (w : World) (hw : ¬ (40 < W ∧ W ≤ 256)) (he : wrongE W n = 0) (hL : leavesI W n = L) (hm : blocksV W (n + 1) 0 = more) (hf : sizeE W (n + 1) 0 = f) (ht : largestV W (1 + L) = top)
    (hx : ((f == 0) = false ∧ (top == n) = true) ∨ (f = 0 ∧ n ≤ top ∧ 1 + L ≤ more ∧ ((1 + L < more ∧ (top == n) = true) ∨ (¬ 1 + L < more ∧ (top == n) = false)))) :
    Calls Try.prog 7 #[.int .i64 W, .int .i64 n] w fun e w' => e = .returned (.bool true) ∧ Below w.heap.size w w' := by
  obtain ⟨h0, h1, h2, h3⟩ := wrongE_ok he
  have hfb := fields_bd h0 h1
  have l := leaves_bd h0 h1 h3
  rw [hL] at l
  have HW := Lib.hid hw
  have HE := Lib.hid he
  have HL := Lib.hid hL
  have HM := Lib.hid (⟨hm, hf⟩ : blocksV W (n + 1) 0 = more ∧ sizeE W (n + 1) 0 = f)
  have HT := Lib.hid ht
  have HS := Lib.hid (sizeE_mk (W := W) (p := n) (d := 0) h0 h1 h2 (Int.le_refl _) (by omega))
  have HV : Hid (blocksV W n 0 = 1 + L) := Lib.hid (by unfold blocksV; rw [if_pos HS.out, Int.add_zero, hL])
  have HA0 : Hid (fullV W n (-1) = allTo W n 0) := Lib.hid (allTo_zero he).symm
  have HAL : Hid (allTo W n L = n) := Lib.hid (by rw [← hL]; exact allTo_all he)
  have HX := Lib.hid hx
  clear hw he hL hm hf ht hx
  go_enter Try.func7, Try.ntmps7
  go_wp2_with fail
  refine (wide_no _ _ HW.out).mono ?_
  rintro e w1 ⟨rfl, rfl⟩
  go_wp2_with fail
  refine (blocks_lit W n 0 (1 + L) 0 _ HV.out HS.out).mono ?_
  rintro e w1 ⟨rfl, hb⟩
  have HB1 := Lib.hid hb
  clear hb
  go_wp2_with fail
  refine (full_lit W n (-1) _ _ HA0.out).mono ?_
  rintro e w2 ⟨rfl, hb⟩
  have HB2 := Lib.hid (below_step HB1.out hb)
  clear hb
  go_wp2_with fail
  go_loopw [7, 8] (fun s i wr => ∃ k : Int, 0 ≤ k ∧ k ≤ L ∧ i = .int .i64 k ∧ s = .int .i64 (allTo W n k) ∧ Below w.heap.size w wr) (fun _ i _ => (L - intOf i).toNat)
  case atStart => exact ⟨0, Int.le_refl _, l.1, rfl, rfl, HB2.out⟩
  case round =>
    obtain ⟨k, k0, k1, rfl, rfl, hb⟩ := hrel
    have HB3 := Lib.hid hb
    clear hb
    have hab := allTo_bd HE.out k0
    by_cases hk : k < L
    · have hk' : k < leavesI W n := by rw [HL.out]; exact hk
      obtain ⟨f1, f2, f3⟩ := full_some HE.out k0 hk'
      have HSu := Lib.hid (allTo_succ HE.out k0 hk')
      rw [HL.out] at f3
      by_cases hk2 : k < L - 1
      · have f4 := beq_of (f3 hk2)
        have f5 : (fullV W n k != W - 1) = false := by rw [bne, f4]; rfl
        clear f3 hk' f4
        have hk3 : k < 1 + L - 2 := by omega
        go_wp2_with fail
        refine (shFull_any _ _ _ _).mono ?_
        rintro e w4 ⟨rfl, hb⟩
        have HB4 := Lib.hid (below_step HB3.out hb)
        clear hb
        go_wp2_with fail
        go_roundw
        case rel => exact ⟨k + 1, by omega, by omega, rfl, by rw [HSu.out], HB4.out⟩
        case measure => simp [intOf]; omega
      · clear f3 hk'
        go_wp2_with fail
        refine (shFull_any _ _ _ _).mono ?_
        rintro e w4 ⟨rfl, hb⟩
        have HB4 := Lib.hid (below_step HB3.out hb)
        clear hb
        go_wp2_with fail
        go_roundw
        case rel => exact ⟨k + 1, by omega, by omega, rfl, by rw [HSu.out], HB4.out⟩
        case measure => simp [intOf]; omega
    · obtain rfl : k = L := by omega
      rw [HAL.out]
      rcases HX.out with ⟨g1, g2⟩ | ⟨rfl, g1, g2, g3⟩
      · go_wp2_with fail
        refine (blocks_lit W (n + 1) 0 _ _ _ HM.out.1 HM.out.2).mono ?_
        rintro e w4 ⟨rfl, hb⟩
        have HB4 := Lib.hid (below_step HB3.out hb)
        clear hb
        go_wp2_with fail
        refine (largest_lit W _ _ _ HT.out).mono ?_
        rintro e w5 ⟨rfl, hb⟩
        have HB5 := Lib.hid (below_step HB4.out hb)
        clear hb
        go_wp2_with fail
        refine (begun7_any _).mono ?_
        rintro e w6 ⟨rfl, hb⟩
        have HB6 := Lib.hid (below_step HB5.out hb)
        clear hb
        go_wp2_with fail
        go_ret
        exact ⟨rfl, HB6.out⟩
      · rcases g3 with ⟨g3, g4⟩ | ⟨g3, g4⟩
        all_goals
          go_wp2_with fail
          refine (blocks_lit W (n + 1) 0 _ _ _ HM.out.1 HM.out.2).mono ?_
          rintro e w4 ⟨rfl, hb⟩
          have HB4 := Lib.hid (below_step HB3.out hb)
          clear hb
          go_wp2_with fail
          refine (largest_lit W _ _ _ HT.out).mono ?_
          rintro e w5 ⟨rfl, hb⟩
          have HB5 := Lib.hid (below_step HB4.out hb)
          clear hb
          go_wp2_with fail
          refine (begun7_any _).mono ?_
          rintro e w6 ⟨rfl, hb⟩
          have HB6 := Lib.hid (below_step HB5.out hb)
          clear hb
          go_wp2_with fail
          go_ret
          exact ⟨ret_bool (by first | rfl | (simp; done) | (simp; omega)), HB6.out⟩

theorem walk (W n : Int) (w : World) (h1 : (Lit.int .i64 W).wf = true) (h2 : (Lit.int .i64 n).wf = true) :
    Calls Try.prog 7 #[.int .i64 W, .int .i64 n] w fun e w' => e = .returned (.bool true) ∧ Below w.heap.size w w' := by
  by_cases hw : 40 < W ∧ W ≤ 256
  · exact walk_wide W n w hw.1 hw.2
  · by_cases hs : sizeE W n 0 = 0
    · obtain ⟨g0, g1, g2, g3, g4⟩ := sizeE_ok hs
      refine walk_ok W n _ _ _ _ w hw (wrongE_mk g0 g1 g2 (by omega)) rfl rfl rfl rfl ?_
      by_cases hm : n + 1 ≤ fieldsI W
      · have hz : sizeE W (n + 1) 0 = 0 := sizeE_mk g0 g1 (by omega) (by omega) (by omega)
        have M := more_fields g0 g1 g2 hm
        have hb : blocksV W (n + 1) 0 = 1 + leavesI W (n + 1) := by unfold blocksV; rw [if_pos hz, Int.add_zero]
        refine Or.inr ⟨hz, M.2.1, by rw [hb]; omega, ?_⟩
        rw [hb]
        by_cases hlt : leavesI W n < leavesI W (n + 1)
        · exact Or.inl ⟨by omega, beq_of (M.2.2.1 hlt)⟩
        · exact Or.inr ⟨by omega, bne_of (fun e => hlt (M.2.2.2 e))⟩
      · have e : n = fieldsI W := by omega
        have hz : sizeE W (n + 1) 0 ≠ 0 := by
          unfold sizeE
          rw [if_pos (widB_mk g0 g1), if_pos (Or.inr (Or.inr (by omega)))]; decide
        refine Or.inl ⟨bne_of hz, beq_of ?_⟩
        have M := most_fields g0 g1
        rw [e, M.1, show 1 + (W - 8) = W - 7 by omega]
        exact M.2
    · exact walk_wrong W n w hw hs

/-! ### The row -/
set_option maxRecDepth 100000 in
theorem lifted (os : Os) (started : os.Started) (H : Type) (enc : TypeId × Value → H) :
    ReturnsInHanded {} Try.checked os 7 .any (Rows.shapeAllSpec.pre6 enc Try.prog Try.f7 Rows.shapeAllRow.domain false) (Rows.shapeAllSpec.post enc Try.prog Try.f7 false true false false) := by
  refine returnsInHanded_of_change (C := Try.checked) own started (by kernel_rfl) Try.func7
    (ChangeSpec.witness6 (enc := enc) (C := Try.checked) false ⟨#[], #[.int .i64 0, .int .i64 0], []⟩ 8 (by kernel_rfl) (by kernel_rfl) (by kernel_rfl) (by kernel_rfl)) ?_
  intro W base args ds gs before hval0 hW hcnd _
  have hval : ∀ (j : Nat) t v, Try.f7.params[j]? = some t → args[j]? = some v → Value.okWide Try.prog W .any base t v := hval0
  have hW' := hW
  obtain ⟨p, q, hA0, hV, rfl, hfz, hnd⟩ := hW
  have hA : DataW.TrodAll enc Try.prog W 0 (fun _ => true) true Try.f7.params.toList args.toList ds p := hA0
  rw [Try.params7] at hA hval
  obtain ⟨v0, vs0, d0, ds0, p0, q0, hargs, rfl, rfl, h0, r0⟩ := trodAll_cons hA
  obtain ⟨v1, vs1, d1, ds1, p1, q1, rfl, rfl, rfl, h1, r1⟩ := trodAll_cons r0
  obtain ⟨rfl, rfl, rfl⟩ := trodAll_nil r1
  obtain rfl : args = #[v0, v1] := by cases args; simp_all
  obtain ⟨rfl, rfl⟩ := trodVars_none hV
  have k0 := h0
  have lt0 : ∀ x ∈ p0, x.block < W.heap.size := by obtain ⟨m, hm⟩ := k0; exact DataW.trod_lt m _ _ _ hm
  obtain ⟨a0, rfl, hd0, hp0, w0⟩ := open_int Try.underlying3 (hval 0 3 v0 rfl rfl) h0
  have k1 := h1
  have lt1 : ∀ x ∈ p1, x.block < W.heap.size := by obtain ⟨m, hm⟩ := k1; exact DataW.trod_lt m _ _ _ hm
  obtain ⟨a1, rfl, hd1, hp1, w1⟩ := open_int Try.underlying3 (hval 1 3 v1 rfl rfl) h1
  clear hA0 hval0
  refine (walk a0 a1 W w0 w1).mono fun e W' ⟨he, bel⟩ => ?_
  subst he
  exact ⟨_, rfl, _, _, _, [], _, [], hW', trodAll_mk1 (shut_bool Try.underlying4 _), (trodAll_cons_mk (Below.trod laidOut (by kernel_rfl) (of_decide_eq_true (by kernel_rfl)) k0 bel lt0) (trodAll_cons_mk (Below.trod laidOut (by kernel_rfl) (of_decide_eq_true (by kernel_rfl)) k1 bel lt1) trodAll_mk0)), rfl, bel.frame _, fun h => by cases h⟩

theorem over : Rows.shapeAllRow.holds Try.pinned (OpenSpec.ofChange Rows.shapeAllSpec) :=
  OpenClaim.holds_of_wide 7 Try.f7 rfl rfl rfl rfl rfl rfl rfl ⟨rfl, rfl, rfl, rfl, rfl⟩ rfl rfl rfl rfl rfl (by kernel_rfl) Try.func7 (by kernel_rfl)
    (of_decide_eq_true (by kernel_rfl)) (by unfold Func.isWrapper; first | (rw [if_pos (by decide +kernel)]; kernel_rfl) | (rw [if_neg (by decide +kernel)]; exact ⟨rfl, rfl⟩))
    (fun os started H enc _ => lifted os started H enc)

theorem proved : Rows.ShapeAllSaid := over
#print axioms proved
end Go.Proofs.Ytkcfgjedhgagdaa.shapeAll
