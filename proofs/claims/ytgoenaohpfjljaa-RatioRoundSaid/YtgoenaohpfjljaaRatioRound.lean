/- The statement RatioRound holds for every input: Down times b is at most a, Up times b at least, and Up is Down or one more. No condition. -/
import Derived.Test.YtgoenaohpfjljaaRows
import Derived.Test.YtgoenaohpfjljaaBegun2
import Derived.WalkKit
import Derived.ProofKit
import Derived.OpenShut
import Derived.ChangeOld
import Derived.Carry
import Derived.Lib.SmallJoins
namespace Go.Proofs.Ytgoenaohpfjljaa.ratioRound
open Go.ChangeShapes Go.WideShapes Go.ChangeAt Go.RowKit Go.Joins
open Go.Proofs.Ytgoenaohpfjljaa.Pk
set_option linter.unusedVariables false
set_option linter.unusedSimpArgs false

theorem own : ownKnob Try.prog.godebug = none := by kernel_rfl
theorem laidOut : laidOutB Try.prog = true := by kernel_rfl

theorem list_two (a b : Int) (w : World) : Row (w.alloc (.cells #[.int .i64 a, .int .i64 b] 3)) .i64 (some ⟨w.heap.size, 0, none⟩) [a, b] := Row.lit w .i64 [a, b] 3
theorem mul_two (a b : Int) (w : World) (n : Nat) (hn : n = w.heap.size) :
    Calls Try.prog 12 #[.slice (some ⟨n, 0, none⟩) 2 2] (w.alloc (.cells #[.int .i64 a, .int .i64 b] 3)) fun e w' => e = .returned (.int .i64 (mulL [a, b])) ∧ w.alloc (.cells #[.int .i64 a, .int .i64 b] 3) = w' := by
  subst hn; exact mul_any _ 2 [a, b] _ (list_two a b w) (by simp)
theorem clamp_lo (n : Int) (w : World) : Calls Try.prog 9 #[.int .i64 n, .int .i64 0, .int .i64 1125899906842624] w fun e w' => e = .returned (.int .i64 (cnt n)) ∧ w = w' := clamp_any _ _ _ _
theorem clamp_by (n : Int) (w : World) : Calls Try.prog 9 #[.int .i64 n, .int .i64 1, .int .i64 1125899906842624] w fun e w' => e = .returned (.int .i64 (byI n)) ∧ w = w' := eqI (clamp_any _ _ _ _) (byI_clamp n).symm
theorem below_two {w w1 : World} (h : Below w.heap.size w w1) (o : Obj) : Below w.heap.size w (w1.alloc o) := below_step h (below_new _ _)

theorem down_mul (a b : Int) : mulL [downI a b, byI b] ≤ cnt a := by
  have h1 := downI_bd a b
  have h2 := byI_bd b
  have h3 := cnt_bd a
  obtain ⟨h4, h5, h6⟩ := down_rest a b
  rw [mulL_two, cnt_id h1.1 (by omega), cnt_id (by omega) h2.2, times_min h1.1 (by omega) (by omega) h2.2, Int.mul_comm]
  omega
theorem up_mul (a b : Int) : cnt a ≤ mulL [upI a b, byI b] := by
  have h1 := upI_most a b
  have h2 := byI_bd b
  have h3 := cnt_bd a
  have h4 := upI_mul a b
  rw [mulL_two, cnt_id h1.1 (by omega), cnt_id (by omega) h2.2, times_min h1.1 (by omega) (by omega) h2.2, Int.mul_comm]
  omega

set_option maxHeartbeats 600000 in
theorem walk_at (a b d u : Int) (w : World) (hd : downI a b = d) (hu : upI a b = u) (h1 : mulL [d, byI b] ≤ cnt a) (h2 : cnt a ≤ mulL [u, byI b]) (h3 : u = d ∨ (u ≠ d ∧ u = d + 1)) (h4 : 0 ≤ d) (h5 : d ≤ 1125899906842624) :
    Calls Try.prog 7 #[.int .i64 a, .int .i64 b] w fun e w' => e = .returned (.bool true) ∧ Below w.heap.size w w' := by
  have HD := Lib.hid hd
  have HU := Lib.hid hu
  clear hd hu
  rcases h3 with rfl | ⟨hne, hs⟩
  · go_enter Try.func7, Try.ntmps7
    go_wp2_with fail
    refine (eqI (down_any _ _ _) HD.out).mono ?_
    rintro e w2 ⟨rfl, rfl⟩
    go_wp2_with fail
    refine (eqI (up_any _ _ _) HU.out).mono ?_
    rintro e w2 ⟨rfl, rfl⟩
    go_wp2_with fail
    refine (clamp_lo _ _).mono ?_
    rintro e w2 ⟨rfl, rfl⟩
    go_wp2_with fail
    refine (clamp_by _ _).mono ?_
    rintro e w2 ⟨rfl, rfl⟩
    go_wp2_with fail
    refine (begun2_any _).mono ?_
    rintro e w1 ⟨rfl, hb1⟩
    have HB1 := Lib.hid hb1
    clear hb1
    go_wp2_with fail
    refine (mul_two _ _ _ _ (by simp)).mono ?_
    rintro e w2 ⟨rfl, rfl⟩
    go_wp2_with fail
    refine (mul_two _ _ _ _ (by simp)).mono ?_
    rintro e w2 ⟨rfl, rfl⟩
    go_wp2_with fail
    go_ret
    exact ⟨rfl, below_two (below_two HB1.out _) _⟩
  · have g : (u == d) = false := bne_of hne
    have g2 : (u == d + 1) = true := beq_iff_eq.2 hs
    clear hne hs
    go_enter Try.func7, Try.ntmps7
    go_wp2_with fail
    refine (eqI (down_any _ _ _) HD.out).mono ?_
    rintro e w2 ⟨rfl, rfl⟩
    go_wp2_with fail
    refine (eqI (up_any _ _ _) HU.out).mono ?_
    rintro e w2 ⟨rfl, rfl⟩
    go_wp2_with fail
    refine (clamp_lo _ _).mono ?_
    rintro e w2 ⟨rfl, rfl⟩
    go_wp2_with fail
    refine (clamp_by _ _).mono ?_
    rintro e w2 ⟨rfl, rfl⟩
    go_wp2_with fail
    refine (begun2_any _).mono ?_
    rintro e w1 ⟨rfl, hb1⟩
    have HB1 := Lib.hid hb1
    clear hb1
    go_wp2_with fail
    refine (mul_two _ _ _ _ (by simp)).mono ?_
    rintro e w2 ⟨rfl, rfl⟩
    go_wp2_with fail
    refine (mul_two _ _ _ _ (by simp)).mono ?_
    rintro e w2 ⟨rfl, rfl⟩
    go_wp2_with fail
    go_ret
    exact ⟨rfl, below_two (below_two HB1.out _) _⟩

theorem walk (a b : Int) (w : World) (ha : (Lit.int .i64 a).wf = true) (hb : (Lit.int .i64 b).wf = true) :
    Calls Try.prog 7 #[.int .i64 a, .int .i64 b] w fun e w' => e = .returned (.bool true) ∧ Below w.heap.size w w' := by
  have h1 := downI_bd a b
  have h2 := upI_bd a b
  have h3 := cnt_bd a
  exact walk_at a b _ _ w rfl rfl (down_mul a b) (up_mul a b) (by omega) h1.1 (by omega)

/-! ### The row -/
set_option maxRecDepth 100000 in
theorem lifted (os : Os) (started : os.Started) (H : Type) (enc : TypeId × Value → H) :
    ReturnsInHanded {} Try.checked os 7 .any (Rows.ratioRoundSpec.pre6 enc Try.prog Try.f7 Rows.ratioRoundRow.domain false) (Rows.ratioRoundSpec.post enc Try.prog Try.f7 false true false false) := by
  refine returnsInHanded_of_change (C := Try.checked) own started (by kernel_rfl) Try.func7
    (ChangeSpec.witness6 (enc := enc) (C := Try.checked) false ⟨#[], #[.int .i64 0, .int .i64 0], []⟩ 8 (by kernel_rfl) (by kernel_rfl) (by kernel_rfl) (by kernel_rfl)) ?_
  intro W base args ds gs before hval0 hW hcnd _
  have hval : ∀ (j : Nat) t v, Try.f7.params[j]? = some t → args[j]? = some v → Value.okWide Try.prog W .any base t v := hval0
  have hW' := hW
  obtain ⟨p, q, hA0, hV, rfl, hfz, hnd⟩ := hW
  have hA : DataW.TrodAll enc Try.prog W 0 (fun _ => true) true Try.f7.params.toList args.toList ds p := hA0
  rw [Try.params7] at hA hval
  obtain ⟨v0, vs0, d0, ds0, p0, q0, hargs, rfl, rfl, h0, r0⟩ := trodAll_cons hA
  obtain ⟨v1, vs1, d1, ds1, p1, q1, rfl, rfl, rfl, h1, r1⟩ := trodAll_cons r0
  obtain ⟨rfl, rfl, rfl⟩ := trodAll_nil r1
  obtain rfl : args = #[v0, v1] := by cases args; simp_all
  obtain ⟨rfl, rfl⟩ := trodVars_none hV
  have k0 := h0
  have lt0 : ∀ x ∈ p0, x.block < W.heap.size := by obtain ⟨m, hm⟩ := k0; exact DataW.trod_lt m _ _ _ hm
  obtain ⟨a0, rfl, hd0, hp0, w0⟩ := open_int Try.underlying3 (hval 0 3 v0 rfl rfl) h0
  have k1 := h1
  have lt1 : ∀ x ∈ p1, x.block < W.heap.size := by obtain ⟨m, hm⟩ := k1; exact DataW.trod_lt m _ _ _ hm
  obtain ⟨a1, rfl, hd1, hp1, w1⟩ := open_int Try.underlying3 (hval 1 3 v1 rfl rfl) h1
  clear hA0 hval0
  refine (walk a0 a1 W w0 w1).mono fun e W' ⟨he, bel⟩ => ?_
  subst he
  exact ⟨_, rfl, _, _, _, [], _, [], hW', trodAll_mk1 (shut_bool Try.underlying4 _), (trodAll_cons_mk (Below.trod laidOut (by kernel_rfl) (of_decide_eq_true (by kernel_rfl)) k0 bel lt0) (trodAll_cons_mk (Below.trod laidOut (by kernel_rfl) (of_decide_eq_true (by kernel_rfl)) k1 bel lt1) trodAll_mk0)), rfl, bel.frame _, fun h => by cases h⟩

theorem over : Rows.ratioRoundRow.holds Try.pinned (OpenSpec.ofChange Rows.ratioRoundSpec) :=
  OpenClaim.holds_of_wide 7 Try.f7 rfl rfl rfl rfl rfl rfl rfl ⟨rfl, rfl, rfl, rfl, rfl⟩ rfl rfl rfl rfl rfl (by kernel_rfl) Try.func7 (by kernel_rfl)
    (of_decide_eq_true (by kernel_rfl)) (by unfold Func.isWrapper; first | (rw [if_pos (by decide +kernel)]; kernel_rfl) | (rw [if_neg (by decide +kernel)]; exact ⟨rfl, rfl⟩))
    (fun os started H enc _ => lifted os started H enc)

theorem proved : Rows.RatioRoundSaid := over
#print axioms proved
end Go.Proofs.Ytgoenaohpfjljaa.ratioRound
