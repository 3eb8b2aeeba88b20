/- ChainNobody holds: of a nil ground, and of a chain that there is not, there is nothing, and nothing is taken; and the chapter's example holds. No condition. -/
import Derived.Test.YticlidpdmonijaaRows
import Derived.Test.YticlidpdmonijaaChainFn3
import Derived.Test.YticlidpdmonijaaBegun8
import Derived.WalkKit
import Derived.ProofKit
import Derived.OpenShut
import Derived.ChangeOld
import Derived.Carry
import Derived.Lib.SmallJoins
import Derived.ChangeMaps5
namespace Go.Proofs.Yticlidpdmonijaa.chainNobody
open Go.ChangeShapes Go.WideShapes Go.ChangeAt Go.RowKit Go.Joins
open Go.Proofs.Yticlidpdmonijaa.Pk
set_option linter.unusedVariables false
set_option linter.unusedSimpArgs false

theorem own : ownKnob Try.prog.godebug = none := by kernel_rfl
theorem laidOut : laidOutB Try.prog = true := by kernel_rfl

theorem first_nil (k : Int) (w : World) : Calls Try.prog 17 #[.pointer none, .int .i64 k] w fun e w' => e = .returned (.tuple #[.int .i64 0, .bool false]) ∧ w = w' := by
  go_enter Try.func17, Try.ntmps17
  go_wp2_with fail
  refine (ch_regs_nil k _).mono ?_
  rintro e w1 ⟨rfl, rfl⟩
  go_wp2_with fail
  go_ret2
  exact ⟨rfl, rfl⟩
theorem take_nil (k : Int) (w : World) : Calls Try.prog 14 #[.pointer none, .int .i64 k] w fun e w' => e = .returned (.tuple #[.int .i64 0, .bool false]) ∧ w = w' := by
  go_enter Try.func14, Try.ntmps14
  go_wp2_with fail
  refine (first_nil k _).mono ?_
  rintro e w1 ⟨rfl, rfl⟩
  go_wp2_with fail
  go_ret2
  exact ⟨rfl, rfl⟩
theorem len_nil (k : Int) (w : World) : Calls Try.prog 15 #[.pointer none, .int .i64 k] w fun e w' => e = .returned (.int .i64 0) ∧ w = w' := by
  go_enter Try.func15, Try.ntmps15
  go_wp2_with fail
  refine (ch_regs_nil k _).mono ?_
  rintro e w1 ⟨rfl, rfl⟩
  go_wp2_with fail
  go_ret
  exact ⟨rfl, rfl⟩
theorem list_nil (k : Int) (w : World) : Calls Try.prog 16 #[.pointer none, .int .i64 k] w fun e w' => e = .returned (.slice none 0 0) ∧ w = w' := by
  go_enter Try.func16, Try.ntmps16
  go_wp2_with fail
  refine (ch_regs_nil k _).mono ?_
  rintro e w1 ⟨rfl, rfl⟩
  go_wp2_with fail
  go_ret
  exact ⟨rfl, rfl⟩
theorem put_nil (k b : Int) (f : Value) (w : World) : Calls Try.prog 33 #[.pointer none, .int .i64 k, .int .i64 b, f] w fun e w' => e = .returned (.bool false) ∧ w = w' := by
  go_enter Try.func33, Try.ntmps33
  go_wp2_with fail
  refine (ch_regs_nil k _).mono ?_
  rintro e w1 ⟨rfl, rfl⟩
  go_wp2_with fail
  go_ret
  exact ⟨rfl, rfl⟩
theorem push_nil (k b : Int) (w : World) : Calls Try.prog 13 #[.pointer none, .int .i64 k, .int .i64 b] w fun e w' => e = .returned (.bool false) ∧ Below w.heap.size w w' := by
  have hmf : ∀ (fn : Fn) (first cap : Array Value) (w : World), (Instr.makeFunc fn first cap).run Try.prog w = .ok (.func fn first cap) w := fun _ _ _ _ => rfl
  go_enter Try.func13, Try.ntmps13
  go_wp2_with fail
  refine (put_nil k b _ _).mono ?_
  rintro e w1 ⟨rfl, rfl⟩
  go_wp2_with fail
  go_ret
  exact ⟨rfl, below_new w _⟩
theorem add_nil (k b : Int) (w : World) : Calls Try.prog 12 #[.pointer none, .int .i64 k, .int .i64 b] w fun e w' => e = .returned (.bool false) ∧ Below w.heap.size w w' := by
  have hmf : ∀ (fn : Fn) (first cap : Array Value) (w : World), (Instr.makeFunc fn first cap).run Try.prog w = .ok (.func fn first cap) w := fun _ _ _ _ => rfl
  go_enter Try.func12, Try.ntmps12
  go_wp2_with fail
  refine (put_nil k b _ _).mono ?_
  rintro e w1 ⟨rfl, rfl⟩
  go_wp2_with fail
  go_ret
  exact ⟨rfl, below_new w _⟩

def cf3 : Cf := ⟨3, 16, 1, 1⟩
theorem cf3_may : cf3.May := by constructor <;> simp [cf3]
theorem new3 (w : World) : Calls Try.prog 6 #[.agg #[.int .i64 3, .int .i64 16, .int .i64 1, .int .i64 1]] w (NewG 55 84 66 w cf3) := gnew_yes cf3 w cf3_may

set_option maxRecDepth 100000 in
set_option maxHeartbeats 1000000 in
theorem walk (k b : Int) (w : World) (h0 : (Lit.int .i64 k).wf = true) (h1 : (Lit.int .i64 b).wf = true) :
    Calls Try.prog 5 #[.int .i64 k, .int .i64 b] w fun e w' => e = .returned (.bool true) ∧ Below w.heap.size w w' := by
  clear h0 h1
  go_enter Try.func5, Try.ntmps5
  go_wp2_with fail
  refine (new3 _).mono ?_
  rintro e w1 ⟨p, rfl, hG, hp, hb⟩
  have HG := Lib.hid hG
  have HB := Lib.hid hb
  have HP : Hid (∀ k, inG p k → w.heap.size ≤ k) := Lib.hid (fun k hk => hp k (Or.inr hk))
  clear hG hb hp
  have HT0 : Hid (Below w.heap.size w w) := Lib.hid (Below.refl _ _)
  go_wp2_with fail
  refine (take_nil k _).mono ?_
  rintro e wm0 ⟨rfl, rfl⟩
  go_wp2_with fail
  refine (first_nil k _).mono ?_
  rintro e wm0 ⟨rfl, rfl⟩
  go_wp2_with fail
  refine (push_nil k b _).mono ?_
  rintro e wm1 ⟨rfl, hb⟩
  have HG1 := Lib.hid (HG.out.later hb)
  have HT1 : Hid (Below w.heap.size w wm1) := Lib.hid (below_step HB.out hb)
  clear hb
  go_wp2_with fail
  refine (add_nil k b _).mono ?_
  rintro e wm2 ⟨rfl, hb⟩
  have HG2 := Lib.hid (HG1.out.later hb)
  have HT2 : Hid (Below w.heap.size w wm2) := Lib.hid (below_step HT1.out hb)
  clear hb
  go_wp2_with fail
  refine (len_nil k _).mono ?_
  rintro e wm0 ⟨rfl, rfl⟩
  go_wp2_with fail
  refine (list_nil k _).mono ?_
  rintro e wm0 ⟨rfl, rfl⟩
  by_cases hk : k = 0 ∨ k = 1
  · rcases hk with rfl | rfl
    · go_wp2_with fail
      refine (begun8_any chainFns _).mono ?_
      rintro e wm3 ⟨rfl, hb⟩
      have HG3 := Lib.hid (HG2.out.later hb)
      have HT3 : Hid (Below w.heap.size w wm3) := Lib.hid (below_step HT2.out hb)
      clear hb
      go_wp2_with fail
      go_ret
      exact ⟨rfl, HT3.out⟩
    · go_wp2_with fail
      refine (begun8_any chainFns _).mono ?_
      rintro e wm3 ⟨rfl, hb⟩
      have HG3 := Lib.hid (HG2.out.later hb)
      have HT3 : Hid (Below w.heap.size w wm3) := Lib.hid (below_step HT2.out hb)
      clear hb
      go_wp2_with fail
      go_ret
      exact ⟨rfl, HT3.out⟩
  · have k0 : (k == 0) = false := neq_b (fun h => hk (Or.inl h))
    have k1 : (k == 1) = false := neq_b (fun h => hk (Or.inr h))
    have HK := Lib.hid hk
    clear hk
    have HBB := Lib.hid (HT2.out)
    go_wp2_with fail
    refine (chainTake_no p cf3 ⟨_, 0⟩ k _ HG2.out (Or.inl HK.out)).mono ?_
    rintro e w3 ⟨m3, rfl, hG3, _, _, hT3⟩
    have HG3 := Lib.hid hG3
    have HB3 := Lib.hid (HBB.out.trans (hT3.below (B := w.heap.size) HP.out HBB.out.size))
    clear hG3 hT3
    go_wp2_with fail
    refine (ch_first_no p cf3 ⟨_, m3⟩ k _ HG3.out (Or.inl HK.out)).mono ?_
    rintro e w4 ⟨m4, rfl, hG4, _, _, hT4⟩
    have HG4 := Lib.hid hG4
    have HB4 := Lib.hid (HB3.out.trans (hT4.below (B := w.heap.size) HP.out HB3.out.size))
    clear hG4 hT4
    go_wp2_with fail
    refine (chainPush_no p cf3 ⟨_, m4⟩ k b _ HG4.out (Or.inl HK.out)).mono ?_
    rintro e w5 ⟨m5, rfl, hG5, _, _, hT5⟩
    have HG5 := Lib.hid hG5
    have HB5 := Lib.hid (HB4.out.trans (hT5.below (B := w.heap.size) HP.out HB4.out.size))
    clear hG5 hT5
    go_wp2_with fail
    refine (chainAdd_no p cf3 ⟨_, m5⟩ k b _ HG5.out (Or.inl HK.out)).mono ?_
    rintro e w6 ⟨m6, rfl, hG6, _, _, hT6⟩
    have HG6 := Lib.hid hG6
    have HB6 := Lib.hid (HB5.out.trans (hT6.below (B := w.heap.size) HP.out HB5.out.size))
    clear hG6 hT6
    go_wp2_with fail
    refine (ch_len_no p cf3 ⟨_, m6⟩ k _ HG6.out HK.out).mono ?_
    rintro e w7 ⟨m7, rfl, hG7, _, _, hT7⟩
    have HG7 := Lib.hid hG7
    have HB7 := Lib.hid (HB6.out.trans (hT7.below (B := w.heap.size) HP.out HB6.out.size))
    clear hG7 hT7
    go_wp2_with fail
    refine (chainList_no p cf3 ⟨_, m7⟩ k _ HG7.out HK.out).mono ?_
    rintro e w8 ⟨a8, c8, rfl, _, _, hb8⟩
    have HB8 := Lib.hid (below_step HB7.out hb8)
    clear hb8
    go_wp2_with fail
    refine (begun8_any chainFns _).mono ?_
    rintro e w9 ⟨rfl, hb9⟩
    have HB9 := Lib.hid (below_step HB8.out hb9)
    clear hb9
    go_wp2_with fail
    go_ret
    exact ⟨rfl, HB9.out⟩

/-! ### The row -/
set_option maxRecDepth 100000 in
theorem lifted (os : Os) (started : os.Started) (H : Type) (enc : TypeId × Value → H) :
    ReturnsInHanded {} Try.checked os 5 .any (Rows.chainNobodySpec.pre6 enc Try.prog Try.f5 Rows.chainNobodyRow.domain false) (Rows.chainNobodySpec.post enc Try.prog Try.f5 false true false false) := by
  refine returnsInHanded_of_change (C := Try.checked) own started (by kernel_rfl) Try.func5
    (ChangeSpec.witness6 (enc := enc) (C := Try.checked) false ⟨#[], #[.int .i64 0, .int .i64 0], []⟩ 8 (by kernel_rfl) (by kernel_rfl) (by kernel_rfl) (by kernel_rfl)) ?_
  intro W base args ds gs before hval0 hW hcnd _
  have hval : ∀ (j : Nat) t v, Try.f5.params[j]? = some t → args[j]? = some v → Value.okWide Try.prog W .any base t v := hval0
  have hW' := hW
  obtain ⟨p, q, hA0, hV, rfl, hfz, hnd⟩ := hW
  have hA : DataW.TrodAll enc Try.prog W 0 (fun _ => true) true Try.f5.params.toList args.toList ds p := hA0
  rw [Try.params5] at hA hval
  obtain ⟨v0, vs0, d0, ds0, p0, q0, hargs, rfl, rfl, h0, r0⟩ := trodAll_cons hA
  obtain ⟨v1, vs1, d1, ds1, p1, q1, rfl, rfl, rfl, h1, r1⟩ := trodAll_cons r0
  obtain ⟨rfl, rfl, rfl⟩ := trodAll_nil r1
  obtain rfl : args = #[v0, v1] := by cases args; simp_all
  obtain ⟨rfl, rfl⟩ := trodVars_none hV
  have k0 := h0
  have lt0 : ∀ x ∈ p0, x.block < W.heap.size := by obtain ⟨m, hm⟩ := k0; exact DataW.trod_lt m _ _ _ hm
  obtain ⟨a0, rfl, hd0, hp0, w0⟩ := open_int Try.underlying3 (hval 0 3 v0 rfl rfl) h0
  have k1 := h1
  have lt1 : ∀ x ∈ p1, x.block < W.heap.size := by obtain ⟨m, hm⟩ := k1; exact DataW.trod_lt m _ _ _ hm
  obtain ⟨a1, rfl, hd1, hp1, w1⟩ := open_int Try.underlying3 (hval 1 3 v1 rfl rfl) h1
  clear hA0 hval0
  refine (walk a0 a1 W w0 w1).mono fun e W' ⟨he, bel⟩ => ?_
  subst he
  exact ⟨_, rfl, _, _, _, [], _, [], hW', trodAll_mk1 (shut_bool Try.underlying4 _), (trodAll_cons_mk (Below.trod laidOut (by kernel_rfl) (of_decide_eq_true (by kernel_rfl)) k0 bel lt0) (trodAll_cons_mk (Below.trod laidOut (by kernel_rfl) (of_decide_eq_true (by kernel_rfl)) k1 bel lt1) trodAll_mk0)), rfl, bel.frame _, fun h => by cases h⟩

theorem over : Rows.chainNobodyRow.holds Try.pinned (OpenSpec.ofChange Rows.chainNobodySpec) :=
  OpenClaim.holds_of_wide 5 Try.f5 rfl rfl rfl rfl rfl rfl rfl ⟨rfl, rfl, rfl, rfl, rfl⟩ rfl rfl rfl rfl rfl (by kernel_rfl) Try.func5 (by kernel_rfl)
    (of_decide_eq_true (by kernel_rfl)) (by unfold Func.isWrapper; first | (rw [if_pos (by decide +kernel)]; kernel_rfl) | (rw [if_neg (by decide +kernel)]; exact ⟨rfl, rfl⟩))
    (fun os started H enc _ => lifted os started H enc)

theorem proved : Rows.ChainNobodySaid := over
#print axioms proved
end Go.Proofs.Yticlidpdmonijaa.chainNobody
