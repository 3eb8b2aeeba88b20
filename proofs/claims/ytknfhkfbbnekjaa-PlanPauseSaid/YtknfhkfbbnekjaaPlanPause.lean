/- The statement PlanPause holds for every input: plan.Pause is the document's number of accesses, and the chapter's example holds. No condition. -/
import Derived.Test.YtknfhkfbbnekjaaRows
import Derived.Test.YtknfhkfbbnekjaaPausePlan
import Derived.Test.YtknfhkfbbnekjaaRefPlan
import Derived.WalkKit
import Derived.ProofKit
import Derived.OpenShut
import Derived.ChangeOld
import Derived.Carry
import Derived.Lib.SmallJoins
namespace Go.Proofs.Ytknfhkfbbnekjaa.planPause
open Go.ChangeShapes Go.WideShapes Go.ChangeAt Go.RowKit Go.Joins
open Go.Proofs.Ytknfhkfbbnekjaa.Pk
set_option linter.unusedVariables false
set_option linter.unusedSimpArgs false

theorem own : ownKnob Try.prog.godebug = none := by kernel_rfl
theorem laidOut : laidOutB Try.prog = true := by kernel_rfl

set_option maxRecDepth 100000 in
set_option maxHeartbeats 1000000 in
theorem walk (N W R K kind blocks : Int) (w : World) (hn : (Lit.int .i64 N).wf = true) (hw : (Lit.int .i64 W).wf = true) (hr : (Lit.int .i64 R).wf = true) (hk : (Lit.int .i64 K).wf = true) (ha : (Lit.int .i64 kind).wf = true) (hb : (Lit.int .i64 blocks).wf = true) :
    Calls Try.prog 3 #[.agg #[.int .i64 N, .int .i64 W, .int .i64 R, .int .i64 K], .int .i64 kind, .int .i64 blocks] w fun e w' => e = .returned (.bool true) ∧ Below w.heap.size w w' := by
  clear hn hw hr hk ha hb
  have HP := Lib.hid fun w' => pause_any N W R K kind blocks w'
  have HR := Lib.hid fun w' => refPause_any N W R K kind blocks w'
  generalize pauseI N W R K kind blocks = p at *
  go_enter Try.func3, Try.ntmps3
  go_wp2_with fail
  have c0 := fun w' (hC : Below (w.alloc (.cells #[.int .i64 N, .int .i64 W, .int .i64 R, .int .i64 K] 23)).heap.size (w.alloc (.cells #[.int .i64 N, .int .i64 W, .int .i64 R, .int .i64 K] 23)) w') => (hC.cell (p := ⟨w.heap.size, 0, none⟩) (by simp)).trans (show _ = some (.int .i64 N) by go_simp)
  have c1 := fun w' (hC : Below (w.alloc (.cells #[.int .i64 N, .int .i64 W, .int .i64 R, .int .i64 K] 23)).heap.size (w.alloc (.cells #[.int .i64 N, .int .i64 W, .int .i64 R, .int .i64 K] 23)) w') => (hC.cell (p := ⟨w.heap.size, 1, none⟩) (by simp)).trans (show _ = some (.int .i64 W) by go_simp)
  have c2 := fun w' (hC : Below (w.alloc (.cells #[.int .i64 N, .int .i64 W, .int .i64 R, .int .i64 K] 23)).heap.size (w.alloc (.cells #[.int .i64 N, .int .i64 W, .int .i64 R, .int .i64 K] 23)) w') => (hC.cell (p := ⟨w.heap.size, 2, none⟩) (by simp)).trans (show _ = some (.int .i64 R) by go_simp)
  have c3 := fun w' (hC : Below (w.alloc (.cells #[.int .i64 N, .int .i64 W, .int .i64 R, .int .i64 K] 23)).heap.size (w.alloc (.cells #[.int .i64 N, .int .i64 W, .int .i64 R, .int .i64 K] 23)) w') => (hC.cell (p := ⟨w.heap.size, 3, none⟩) (by simp)).trans (show _ = some (.int .i64 K) by go_simp)
  refine wp_region_tame_all [Fact.is (.bool true), Fact.is (.bool true), Fact.is (.agg #[.int .i64 N, .int .i64 W, .int .i64 R, .int .i64 K]), Fact.is (.int .i64 kind), Fact.is (.int .i64 blocks), Fact.is (.int .i64 p), Fact.is (.agg #[.int .i64 N, .int .i64 W, .int .i64 R, .int .i64 K]), Fact.is (.int .i64 kind), Fact.is (.int .i64 blocks), Fact.is (.int .i64 p), Fact.is (.bool true), Fact.is (.bool true), Fact.is (.bool true)] (by kernel_rfl) (by kernel_rfl) rfl (by kernel_rfl) (fun ops K2 hops hK => ?_)
  refine walkT_is (wantedN rfl) (fun w' hC hd => tame_0   (fun ρ hρ hf  => upon_call_below (f := 7) (by go_simp) (begun3_any _))) (by go_frame; rfl) (by simp only [List.nil_append, List.cons_append]; rfl) ?_
  refine walkT_is (wantedN rfl) (fun w' hC hd => tame_move _ (.inl rfl) rfl) (by go_frame; rfl) (by simp only [List.nil_append, List.cons_append]; rfl) ?_
  refine walkT_is (wantedT hops rfl rfl rfl rfl) (fun w' hC hd => tame_1 3 (.pointer (some ⟨w.heap.size, 0, none⟩)) rfl (fun ρ hρ hf e0 => upon_is (by have hc0 := c0 w' hC; have hc1 := c1 w' hC; have hc2 := c2 w' hC; have hc3 := c3 w' hC; go_simp))) (by go_frame; rfl) (by simp only [List.nil_append, List.cons_append]; rfl) ?_
  refine walkT_is (wantedT hops rfl rfl rfl rfl) (fun w' hC hd => tame_move _ (.inl rfl) rfl) (by go_frame; rfl) (by simp only [List.nil_append, List.cons_append]; rfl) ?_
  refine walkT_is (wantedT hops rfl rfl rfl rfl) (fun w' hC hd => tame_move _ (.inl rfl) rfl) (by go_frame; rfl) (by simp only [List.nil_append, List.cons_append]; rfl) ?_
  refine walkT_is (wantedT hops rfl rfl rfl rfl) (fun w' hC hd => tame_3 9 (.agg #[.int .i64 N, .int .i64 W, .int .i64 R, .int .i64 K]) 10 (.int .i64 kind) 11 (.int .i64 blocks) rfl rfl rfl (fun ρ hρ hf e0 e1 e2 => upon_call_below (f := 8) (by go_simp) (HP.out w'))) (by go_frame; rfl) (by simp only [List.nil_append, List.cons_append]; rfl) ?_
  refine walkT_is (wantedT hops rfl rfl rfl rfl) (fun w' hC hd => tame_1 3 (.pointer (some ⟨w.heap.size, 0, none⟩)) rfl (fun ρ hρ hf e0 => upon_is (by have hc0 := c0 w' hC; have hc1 := c1 w' hC; have hc2 := c2 w' hC; have hc3 := c3 w' hC; go_simp))) (by go_frame; rfl) (by simp only [List.nil_append, List.cons_append]; rfl) ?_
  refine walkT_is (wantedT hops rfl rfl rfl rfl) (fun w' hC hd => tame_move _ (.inl rfl) rfl) (by go_frame; rfl) (by simp only [List.nil_append, List.cons_append]; rfl) ?_
  refine walkT_is (wantedT hops rfl rfl rfl rfl) (fun w' hC hd => tame_move _ (.inl rfl) rfl) (by go_frame; rfl) (by simp only [List.nil_append, List.cons_append]; rfl) ?_
  refine walkT_is (wantedT hops rfl rfl rfl rfl) (fun w' hC hd => tame_3 13 (.agg #[.int .i64 N, .int .i64 W, .int .i64 R, .int .i64 K]) 14 (.int .i64 kind) 15 (.int .i64 blocks) rfl rfl rfl (fun ρ hρ hf e0 e1 e2 => upon_call_below (f := 9) (by go_simp) (HR.out w'))) (by go_frame; rfl) (by simp only [List.nil_append, List.cons_append]; rfl) ?_
  refine walkT_is (wantedT hops rfl rfl rfl rfl) (fun w' hC hd => tame_2 12 (.int .i64 p) 16 (.int .i64 p) rfl rfl (fun ρ hρ hf e0 e1 => upon_is (by go_simp))) (by go_frame; rfl) (by simp only [List.nil_append, List.cons_append]; rfl) ?_
  refine walkT_is (wantedN rfl) (fun w' hC hd => tame_pick _ _ _ true rfl rfl rfl) (by go_frame; rfl) (by simp only [List.nil_append, List.cons_append]; rfl) ?_
  refine walkT_is (wantedN rfl) (fun w' hC hd => tame_move _ (.inr rfl) rfl) (by go_frame; rfl) (by simp only [List.nil_append, List.cons_append]; rfl) ?_
  refine walkT_nil fun w3 hC3 _ => hK _ _ ?_
  have HB3 := Lib.hid (below_step (below_new w _) hC3)
  clear c0 c1 c2 c3 hC3
  go_wp2_with fail
  go_ret
  exact ⟨rfl, HB3.out⟩

/-! ### The row -/
set_option maxRecDepth 100000 in
theorem lifted (os : Os) (started : os.Started) (H : Type) (enc : TypeId × Value → H) :
    ReturnsInHanded {} Try.checked os 3 .any (Rows.planPauseSpec.pre6 enc Try.prog Try.f3 Rows.planPauseRow.domain false) (Rows.planPauseSpec.post enc Try.prog Try.f3 false true false false) := by
  refine returnsInHanded_of_change (C := Try.checked) own started (by kernel_rfl) Try.func3
    (ChangeSpec.witness6 (enc := enc) (C := Try.checked) false ⟨#[], #[.agg #[.int .i64 0, .int .i64 0, .int .i64 0, .int .i64 0], .int .i64 0, .int .i64 0], []⟩ 8 (by kernel_rfl) (by kernel_rfl) (by kernel_rfl) (by kernel_rfl)) ?_
  intro W base args ds gs before hval0 hW hcnd _
  have hval : ∀ (j : Nat) t v, Try.f3.params[j]? = some t → args[j]? = some v → Value.okWide Try.prog W .any base t v := hval0
  have hW' := hW
  obtain ⟨p, q, hA0, hV, rfl, hfz, hnd⟩ := hW
  have hA : DataW.TrodAll enc Try.prog W 0 (fun _ => true) true Try.f3.params.toList args.toList ds p := hA0
  rw [Try.params3] at hA hval
  obtain ⟨v0, vs0, d0, ds0, p0, q0, hargs, rfl, rfl, h0, r0⟩ := trodAll_cons hA
  obtain ⟨v1, vs1, d1, ds1, p1, q1, rfl, rfl, rfl, h1, r1⟩ := trodAll_cons r0
  obtain ⟨v2, vs2, d2, ds2, p2, q2, rfl, rfl, rfl, h2, r2⟩ := trodAll_cons r1
  obtain ⟨rfl, rfl, rfl⟩ := trodAll_nil r2
  obtain rfl : args = #[v0, v1, v2] := by cases args; simp_all
  obtain ⟨rfl, rfl⟩ := trodVars_none hV
  have k0 := h0
  have lt0 : ∀ x ∈ p0, x.block < W.heap.size := by obtain ⟨m, hm⟩ := k0; exact DataW.trod_lt m _ _ _ hm
  obtain ⟨c00, c01, c02, c03, y00, y01, y02, y03, m0, rfl, hd0, hp0, hy00, hy01, hy02, hy03⟩ := open_agg4 Try.underlying23 (by kernel_rfl) (by kernel_rfl) (hval 0 23 v0 rfl rfl) h0
  obtain ⟨a00, e00, hdd00, w00⟩ := DataW.trod_int Try.underlying3 hy00
  obtain ⟨a01, e01, hdd01, w01⟩ := DataW.trod_int Try.underlying3 hy01
  obtain ⟨a02, e02, hdd02, w02⟩ := DataW.trod_int Try.underlying3 hy02
  obtain ⟨a03, e03, hdd03, w03⟩ := DataW.trod_int Try.underlying3 hy03
  simp at e00 e01 e02 e03
  subst e00 e01 e02 e03
  have k1 := h1
  have lt1 : ∀ x ∈ p1, x.block < W.heap.size := by obtain ⟨m, hm⟩ := k1; exact DataW.trod_lt m _ _ _ hm
  obtain ⟨a1, rfl, hd1, hp1, w1⟩ := open_int Try.underlying3 (hval 1 3 v1 rfl rfl) h1
  have k2 := h2
  have lt2 : ∀ x ∈ p2, x.block < W.heap.size := by obtain ⟨m, hm⟩ := k2; exact DataW.trod_lt m _ _ _ hm
  obtain ⟨a2, rfl, hd2, hp2, w2⟩ := open_int Try.underlying3 (hval 2 3 v2 rfl rfl) h2
  clear hA0 hval0
  refine (walk a00 a01 a02 a03 a1 a2 W w00 w01 w02 w03 w1 w2).mono fun e W' ⟨he, bel⟩ => ?_
  subst he
  exact ⟨_, rfl, _, _, _, [], _, [], hW', trodAll_mk1 (shut_bool Try.underlying4 _), (trodAll_cons_mk (Below.trod laidOut (by kernel_rfl) (of_decide_eq_true (by kernel_rfl)) k0 bel lt0) (trodAll_cons_mk (Below.trod laidOut (by kernel_rfl) (of_decide_eq_true (by kernel_rfl)) k1 bel lt1) (trodAll_cons_mk (Below.trod laidOut (by kernel_rfl) (of_decide_eq_true (by kernel_rfl)) k2 bel lt2) trodAll_mk0))), rfl, bel.frame _, fun h => by cases h⟩

theorem over : Rows.planPauseRow.holds Try.pinned (OpenSpec.ofChange Rows.planPauseSpec) :=
  OpenClaim.holds_of_wide 3 Try.f3 rfl rfl rfl rfl rfl rfl rfl ⟨rfl, rfl, rfl, rfl, rfl⟩ rfl rfl rfl rfl rfl (by kernel_rfl) Try.func3 (by kernel_rfl)
    (of_decide_eq_true (by kernel_rfl)) (by unfold Func.isWrapper; first | (rw [if_pos (by decide +kernel)]; kernel_rfl) | (rw [if_neg (by decide +kernel)]; exact ⟨rfl, rfl⟩))
    (fun os started H enc _ => lifted os started H enc)

theorem proved : Rows.PlanPauseSaid := over
#print axioms proved
end Go.Proofs.Ytknfhkfbbnekjaa.planPause
