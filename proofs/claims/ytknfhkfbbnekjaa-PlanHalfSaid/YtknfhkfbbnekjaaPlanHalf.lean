/- The statement PlanHalf holds for every input: with K from 24 times (W and 1) on, and N from 40 times W on, Lag is less than half of N; and the chapter's example holds. No condition. -/
import Derived.Test.YtknfhkfbbnekjaaRows
import Derived.Test.YtknfhkfbbnekjaaPlanNums
import Derived.WalkKit
import Derived.ProofKit
import Derived.OpenShut
import Derived.ChangeOld
import Derived.Carry
import Derived.Lib.SmallJoins
namespace Go.Proofs.Ytknfhkfbbnekjaa.planHalf
open Go.ChangeShapes Go.WideShapes Go.ChangeAt Go.RowKit Go.Joins
open Go.Proofs.Ytknfhkfbbnekjaa.Pk
set_option linter.unusedVariables false
set_option linter.unusedSimpArgs false

theorem own : ownKnob Try.prog.godebug = none := by kernel_rfl
theorem laidOut : laidOutB Try.prog = true := by kernel_rfl

set_option maxRecDepth 100000 in
set_option maxHeartbeats 1000000 in
theorem walk_no (N W R K : Int) (w : World) (h : mayB N W R K = false) :
    Calls Try.prog 5 #[.agg #[.int .i64 N, .int .i64 W, .int .i64 R, .int .i64 K]] w fun e w' => e = .returned (.bool true) ∧ Below w.heap.size w w' := by
  have HX := Lib.hid h
  clear h
  go_enter Try.func5, Try.ntmps5
  go_wp2_with fail
  refine (of_no _ _ _ _ _ HX.out).mono ?_
  rintro e w1 ⟨rfl, hb⟩
  have HB := Lib.hid (below_step (below_new w _) hb)
  clear hb
  go_wp2_with fail
  refine (begun3_any _).mono ?_
  rintro e w2 ⟨rfl, hb⟩
  have HB2 := Lib.hid (below_step (HB.out.alloc HB.out.size _) hb)
  clear hb
  go_wp2_with fail
  go_ret
  exact ⟨rfl, HB2.out⟩

set_option maxRecDepth 100000 in
set_option maxHeartbeats 1000000 in
theorem walk_low (N W R K : Int) (w : World) (h : May N W R K) (hx : K < 24 * (W + 1) ∨ 24 * (W + 1) ≤ K ∧ N < 40 * W) :
    Calls Try.prog 5 #[.agg #[.int .i64 N, .int .i64 W, .int .i64 R, .int .i64 K]] w fun e w' => e = .returned (.bool true) ∧ Below w.heap.size w w' := by
  have w0 := h.w0; have w1 := h.w1
  have HX := Lib.hid h
  clear h
  rcases hx with hx | ⟨hx, hx2⟩
  all_goals
    go_enter Try.func5, Try.ntmps5
    go_wp2_with fail
    refine (of_yes _ _ _ _ _ HX.out).mono ?_
    rintro e w1 ⟨rfl, hb⟩
    obtain ⟨hc, hf⟩ := bcell hb
    have hz : w.heap.size < w1.heap.size := by have := hb.size; simp at this; omega
    have HB := Lib.hid (below_step (below_new w _) hb)
    clear hb
    unfold numsV
    go_wp2_with fail
    refine (begun3_any _).mono ?_
    rintro e w2 ⟨rfl, hb⟩
    have HB2 := Lib.hid (below_step (HB.out.alloc HB.out.size _) hb)
    clear hb hc hf
    go_wp2_with fail
    go_ret
    exact ⟨rfl, HB2.out⟩

set_option maxRecDepth 100000 in
set_option maxHeartbeats 1000000 in
theorem walk_half (N W R K : Int) (w : World) (h : May N W R K) (hx : 24 * (W + 1) ≤ K) (hx2 : 40 * W ≤ N) :
    Calls Try.prog 5 #[.agg #[.int .i64 N, .int .i64 W, .int .i64 R, .int .i64 K]] w fun e w' => e = .returned (.bool true) ∧ Below w.heap.size w w' := by
  have w0 := h.w0; have w1 := h.w1; have n0 := h.n0; have n1 := h.n1
  have hl : lagI N W K < (N + 1) / 2 := lag_half h hx hx2
  have HX := Lib.hid h
  clear h
  go_enter Try.func5, Try.ntmps5
  go_wp2_with fail
  refine (of_yes _ _ _ _ _ HX.out).mono ?_
  rintro e w1 ⟨rfl, hb⟩
  obtain ⟨hc, hf⟩ := bcell hb
  have hz : w.heap.size < w1.heap.size := by have := hb.size; simp at this; omega
  have HB0 := Lib.hid hb
  have HB := Lib.hid (below_step (below_new w _) hb)
  clear hb
  unfold numsV
  go_wp2_with fail
  refine (begun3_any _).mono ?_
  rintro e w2 ⟨rfl, hb⟩
  have HB2 := Lib.hid (below_step (HB.out.alloc HB.out.size _) hb)
  obtain ⟨hc2, hf2⟩ := bcell hb
  have hz2 : w1.heap.size < w2.heap.size := by have := hb.size; simp at this; omega
  clear hb
  have c0 : w2.cell? ⟨w.heap.size, 0, none⟩ = some (.int .i64 N) := by
    rw [hc2 _ _ (by simp; omega), World.cell?_alloc_past _ _ _ (by show w.heap.size < _; omega), hc _ _ (by simp)]; go_simp
  have c6 : w2.cell? ⟨w1.heap.size, 6, none⟩ = some (.int .i64 (lagI N W K)) := by
    rw [hc2 _ _ (by simp)]; go_simp
  clear hc hf hc2 hf2
  go_wp2_with fail
  go_ret
  exact ⟨ret_bool (by simp), HB2.out⟩

theorem walk (N W R K : Int) (w : World) (hn : (Lit.int .i64 N).wf = true) (hw : (Lit.int .i64 W).wf = true) (hr : (Lit.int .i64 R).wf = true) (hk : (Lit.int .i64 K).wf = true) :
    Calls Try.prog 5 #[.agg #[.int .i64 N, .int .i64 W, .int .i64 R, .int .i64 K]] w fun e w' => e = .returned (.bool true) ∧ Below w.heap.size w w' := by
  cases hm : mayB N W R K with
  | false => exact walk_no N W R K w hm
  | true =>
    have h := may_of hm
    by_cases h1 : 24 * (W + 1) ≤ K
    · by_cases h2 : 40 * W ≤ N
      · exact walk_half N W R K w h h1 h2
      · exact walk_low N W R K w h (.inr ⟨h1, by omega⟩)
    · exact walk_low N W R K w h (.inl (by omega))

/-! ### The row -/
set_option maxRecDepth 100000 in
theorem lifted (os : Os) (started : os.Started) (H : Type) (enc : TypeId × Value → H) :
    ReturnsInHanded {} Try.checked os 5 .any (Rows.planHalfSpec.pre6 enc Try.prog Try.f5 Rows.planHalfRow.domain false) (Rows.planHalfSpec.post enc Try.prog Try.f5 false true false false) := by
  refine returnsInHanded_of_change (C := Try.checked) own started (by kernel_rfl) Try.func5
    (ChangeSpec.witness6 (enc := enc) (C := Try.checked) false ⟨#[], #[.agg #[.int .i64 0, .int .i64 0, .int .i64 0, .int .i64 0]], []⟩ 8 (by kernel_rfl) (by kernel_rfl) (by kernel_rfl) (by kernel_rfl)) ?_
  intro W base args ds gs before hval0 hW hcnd _
  have hval : ∀ (j : Nat) t v, Try.f5.params[j]? = some t → args[j]? = some v → Value.okWide Try.prog W .any base t v := hval0
  have hW' := hW
  obtain ⟨p, q, hA0, hV, rfl, hfz, hnd⟩ := hW
  have hA : DataW.TrodAll enc Try.prog W 0 (fun _ => true) true Try.f5.params.toList args.toList ds p := hA0
  rw [Try.params5] at hA hval
  obtain ⟨v0, vs0, d0, ds0, p0, q0, hargs, rfl, rfl, h0, r0⟩ := trodAll_cons hA
  obtain ⟨rfl, rfl, rfl⟩ := trodAll_nil r0
  obtain rfl : args = #[v0] := by cases args; simp_all
  obtain ⟨rfl, rfl⟩ := trodVars_none hV
  have k0 := h0
  have lt0 : ∀ x ∈ p0, x.block < W.heap.size := by obtain ⟨m, hm⟩ := k0; exact DataW.trod_lt m _ _ _ hm
  obtain ⟨c00, c01, c02, c03, y00, y01, y02, y03, m0, rfl, hd0, hp0, hy00, hy01, hy02, hy03⟩ := open_agg4 Try.underlying23 (by kernel_rfl) (by kernel_rfl) (hval 0 23 v0 rfl rfl) h0
  obtain ⟨a00, e00, hdd00, w00⟩ := DataW.trod_int Try.underlying3 hy00
  obtain ⟨a01, e01, hdd01, w01⟩ := DataW.trod_int Try.underlying3 hy01
  obtain ⟨a02, e02, hdd02, w02⟩ := DataW.trod_int Try.underlying3 hy02
  obtain ⟨a03, e03, hdd03, w03⟩ := DataW.trod_int Try.underlying3 hy03
  simp at e00 e01 e02 e03
  subst e00 e01 e02 e03
  clear hA0 hval0
  refine (walk a00 a01 a02 a03 W w00 w01 w02 w03).mono fun e W' ⟨he, bel⟩ => ?_
  subst he
  exact ⟨_, rfl, _, _, _, [], _, [], hW', trodAll_mk1 (shut_bool Try.underlying4 _), (trodAll_cons_mk (Below.trod laidOut (by kernel_rfl) (of_decide_eq_true (by kernel_rfl)) k0 bel lt0) trodAll_mk0), rfl, bel.frame _, fun h => by cases h⟩

theorem over : Rows.planHalfRow.holds Try.pinned (OpenSpec.ofChange Rows.planHalfSpec) :=
  OpenClaim.holds_of_wide 5 Try.f5 rfl rfl rfl rfl rfl rfl rfl ⟨rfl, rfl, rfl, rfl, rfl⟩ rfl rfl rfl rfl rfl (by kernel_rfl) Try.func5 (by kernel_rfl)
    (of_decide_eq_true (by kernel_rfl)) (by unfold Func.isWrapper; first | (rw [if_pos (by decide +kernel)]; kernel_rfl) | (rw [if_neg (by decide +kernel)]; exact ⟨rfl, rfl⟩))
    (fun os started H enc _ => lifted os started H enc)

theorem proved : Rows.PlanHalfSaid := over
#print axioms proved
end Go.Proofs.Ytknfhkfbbnekjaa.planHalf
