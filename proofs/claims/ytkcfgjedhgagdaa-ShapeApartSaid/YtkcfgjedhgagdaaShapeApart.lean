/- The statement ShapeApart holds for every input: each field lies at one place, no two at the same one, and nowhere in a head's own words, or in a leaf's tag. No condition. -/
import Derived.Test.YtkcfgjedhgagdaaRows
import Derived.Test.YtkcfgjedhgagdaaBegun7
import Derived.WalkKit
import Derived.ProofKit
import Derived.OpenShut
import Derived.ChangeOld
import Derived.Carry
import Derived.Lib.SmallJoins
import Derived.ChangeMaps5
namespace Go.Proofs.Ytkcfgjedhgagdaa.shapeApart
open Go.ChangeShapes Go.WideShapes Go.ChangeAt Go.RowKit Go.Joins
open Go.Proofs.Ytkcfgjedhgagdaa.Pk
set_option linter.unusedVariables false
set_option linter.unusedSimpArgs false

theorem own : ownKnob Try.prog.godebug = none := by kernel_rfl
theorem laidOut : laidOutB Try.prog = true := by kernel_rfl

set_option maxHeartbeats 400000 in
theorem walk_no (W n i j : Int) (w : World) (hi : placeE W n i ≠ 0) :
    Calls Try.prog 6 #[.int .i64 W, .int .i64 n, .int .i64 i, .int .i64 j] w fun e w' => e = .returned (.bool true) ∧ Below w.heap.size w w' := by
  have g := bne_of hi
  have E := Lib.hid (place_wrong hi)
  clear hi
  go_enter Try.func6, Try.ntmps6
  go_wp2_with fail
  refine (place_lit W n i 0 0 _ _ E.out.1 E.out.2 rfl).mono ?_
  rintro e w1 ⟨rfl, hb⟩
  have HB1 := Lib.hid hb
  clear hb
  go_wp2_with fail
  refine (shPlace_any _ _ _ _).mono ?_
  rintro e w2 ⟨rfl, hb⟩
  have HB2 := Lib.hid (below_step HB1.out hb)
  clear hb
  go_wp2_with fail
  refine (begun7_any _).mono ?_
  rintro e w5 ⟨rfl, hb⟩
  have HB5 := Lib.hid (below_step HB2.out hb)
  clear hb
  go_wp2_with fail
  go_ret
  exact ⟨rfl, HB5.out⟩

set_option maxHeartbeats 1000000 in
theorem walk_yes (W n i j a b c d f : Int) (w : World) (hi : placeE W n i = 0) (ha : placeL W n i = a) (hb : placeO W n i = b) (hc : placeL W n j = c) (hd : placeO W n j = d) (hf : placeE W n j = f)
    (hx : (f != 0) = true ∨ (f = 0 ∧ ((i == j) = true ∨ ((i == j) = false ∧ ((a != c) = true ∨ (a = c ∧ (b != d) = true)))))) :
    Calls Try.prog 6 #[.int .i64 W, .int .i64 n, .int .i64 i, .int .i64 j] w fun e w' => e = .returned (.bool true) ∧ Below w.heap.size w w' := by
  have p := place_in hi
  have B := back_place hi
  rw [ha, hb] at p B
  obtain ⟨p1, p2, p3, p4⟩ := p
  have HI := Lib.hid (⟨ha, hb, hi⟩ : placeL W n i = a ∧ placeO W n i = b ∧ placeE W n i = 0)
  have HJ := Lib.hid (⟨hc, hd, hf⟩ : placeL W n j = c ∧ placeO W n j = d ∧ placeE W n j = f)
  have HBk := Lib.hid B
  clear hi ha hb hc hd hf B
  have p5 : a < 0 ∨ 0 ≤ a := by omega
  rcases hx with hx | ⟨rfl, hx | ⟨hx1, hx | ⟨rfl, hx⟩⟩⟩
  all_goals
    rcases p5 with p5 | p5
    all_goals
      have p6 : a < 0 → 8 ≤ b := p3
      go_enter Try.func6, Try.ntmps6
      go_wp2_with fail
      refine (place_lit W n i a b 0 _ HI.out.1 HI.out.2.1 HI.out.2.2).mono ?_
      rintro e w1 ⟨rfl, hb⟩
      have HB1 := Lib.hid hb
      clear hb
      go_wp2_with fail
      refine (place_lit W n j _ d _ _ HJ.out.1 HJ.out.2.1 HJ.out.2.2).mono ?_
      rintro e w2 ⟨rfl, hb⟩
      have HB2 := Lib.hid (below_step HB1.out hb)
      clear hb
      go_wp2_with fail
      refine (back_lit W n a b i 0 _ HBk.out.2 HBk.out.1).mono ?_
      rintro e w3 ⟨rfl, hb⟩
      have HB3 := Lib.hid (below_step HB2.out hb)
      clear hb
      go_wp2_with fail
      refine (begun7_any _).mono ?_
      rintro e w5 ⟨rfl, hb⟩
      have HB5 := Lib.hid (below_step HB3.out hb)
      clear hb
      go_wp2_with fail
      go_ret
      exact ⟨ret_bool (by first | rfl | (simp [hx]; done) | (simp_all; done)), HB5.out⟩

theorem walk (W n i j : Int) (w : World) (h1 : (Lit.int .i64 W).wf = true) (h2 : (Lit.int .i64 n).wf = true) (h3 : (Lit.int .i64 i).wf = true) (h4 : (Lit.int .i64 j).wf = true) :
    Calls Try.prog 6 #[.int .i64 W, .int .i64 n, .int .i64 i, .int .i64 j] w fun e w' => e = .returned (.bool true) ∧ Below w.heap.size w w' := by
  by_cases hi : placeE W n i = 0
  · refine walk_yes W n i j _ _ _ _ _ w hi rfl rfl rfl rfl rfl ?_
    by_cases hj : placeE W n j = 0
    · refine Or.inr ⟨hj, ?_⟩
      by_cases e : i = j
      · exact Or.inl (beq_of e)
      · refine Or.inr ⟨bne_of e, ?_⟩
        by_cases el : placeL W n i = placeL W n j
        · exact Or.inr ⟨el, bne_iff_ne.2 (fun ea => e (place_inj hi hj el ea))⟩
        · exact Or.inl (bne_iff_ne.2 el)
    · exact Or.inl (bne_iff_ne.2 hj)
  · exact walk_no W n i j w hi

/-! ### The row -/
set_option maxRecDepth 100000 in
theorem lifted (os : Os) (started : os.Started) (H : Type) (enc : TypeId × Value → H) :
    ReturnsInHanded {} Try.checked os 6 .any (Rows.shapeApartSpec.pre6 enc Try.prog Try.f6 Rows.shapeApartRow.domain false) (Rows.shapeApartSpec.post enc Try.prog Try.f6 false true false false) := by
  refine returnsInHanded_of_change (C := Try.checked) own started (by kernel_rfl) Try.func6
    (ChangeSpec.witness6 (enc := enc) (C := Try.checked) false ⟨#[], #[.int .i64 0, .int .i64 0, .int .i64 0, .int .i64 0], []⟩ 8 (by kernel_rfl) (by kernel_rfl) (by kernel_rfl) (by kernel_rfl)) ?_
  intro W base args ds gs before hval0 hW hcnd _
  have hval : ∀ (j : Nat) t v, Try.f6.params[j]? = some t → args[j]? = some v → Value.okWide Try.prog W .any base t v := hval0
  have hW' := hW
  obtain ⟨p, q, hA0, hV, rfl, hfz, hnd⟩ := hW
  have hA : DataW.TrodAll enc Try.prog W 0 (fun _ => true) true Try.f6.params.toList args.toList ds p := hA0
  rw [Try.params6] at hA hval
  obtain ⟨v0, vs0, d0, ds0, p0, q0, hargs, rfl, rfl, h0, r0⟩ := trodAll_cons hA
  obtain ⟨v1, vs1, d1, ds1, p1, q1, rfl, rfl, rfl, h1, r1⟩ := trodAll_cons r0
  obtain ⟨v2, vs2, d2, ds2, p2, q2, rfl, rfl, rfl, h2, r2⟩ := trodAll_cons r1
  obtain ⟨v3, vs3, d3, ds3, p3, q3, rfl, rfl, rfl, h3, r3⟩ := trodAll_cons r2
  obtain ⟨rfl, rfl, rfl⟩ := trodAll_nil r3
  obtain rfl : args = #[v0, v1, v2, v3] := by cases args; simp_all
  obtain ⟨rfl, rfl⟩ := trodVars_none hV
  have k0 := h0
  have lt0 : ∀ x ∈ p0, x.block < W.heap.size := by obtain ⟨m, hm⟩ := k0; exact DataW.trod_lt m _ _ _ hm
  obtain ⟨a0, rfl, hd0, hp0, w0⟩ := open_int Try.underlying3 (hval 0 3 v0 rfl rfl) h0
  have k1 := h1
  have lt1 : ∀ x ∈ p1, x.block < W.heap.size := by obtain ⟨m, hm⟩ := k1; exact DataW.trod_lt m _ _ _ hm
  obtain ⟨a1, rfl, hd1, hp1, w1⟩ := open_int Try.underlying3 (hval 1 3 v1 rfl rfl) h1
  have k2 := h2
  have lt2 : ∀ x ∈ p2, x.block < W.heap.size := by obtain ⟨m, hm⟩ := k2; exact DataW.trod_lt m _ _ _ hm
  obtain ⟨a2, rfl, hd2, hp2, w2⟩ := open_int Try.underlying3 (hval 2 3 v2 rfl rfl) h2
  have k3 := h3
  have lt3 : ∀ x ∈ p3, x.block < W.heap.size := by obtain ⟨m, hm⟩ := k3; exact DataW.trod_lt m _ _ _ hm
  obtain ⟨a3, rfl, hd3, hp3, w3⟩ := open_int Try.underlying3 (hval 3 3 v3 rfl rfl) h3
  clear hA0 hval0
  refine (walk a0 a1 a2 a3 W w0 w1 w2 w3).mono fun e W' ⟨he, bel⟩ => ?_
  subst he
  exact ⟨_, rfl, _, _, _, [], _, [], hW', trodAll_mk1 (shut_bool Try.underlying4 _), (trodAll_cons_mk (Below.trod laidOut (by kernel_rfl) (of_decide_eq_true (by kernel_rfl)) k0 bel lt0) (trodAll_cons_mk (Below.trod laidOut (by kernel_rfl) (of_decide_eq_true (by kernel_rfl)) k1 bel lt1) (trodAll_cons_mk (Below.trod laidOut (by kernel_rfl) (of_decide_eq_true (by kernel_rfl)) k2 bel lt2) (trodAll_cons_mk (Below.trod laidOut (by kernel_rfl) (of_decide_eq_true (by kernel_rfl)) k3 bel lt3) trodAll_mk0)))), rfl, bel.frame _, fun h => by cases h⟩

theorem over : Rows.shapeApartRow.holds Try.pinned (OpenSpec.ofChange Rows.shapeApartSpec) :=
  OpenClaim.holds_of_wide 6 Try.f6 rfl rfl rfl rfl rfl rfl rfl ⟨rfl, rfl, rfl, rfl, rfl⟩ rfl rfl rfl rfl rfl (by kernel_rfl) Try.func6 (by kernel_rfl)
    (of_decide_eq_true (by kernel_rfl)) (by unfold Func.isWrapper; first | (rw [if_pos (by decide +kernel)]; kernel_rfl) | (rw [if_neg (by decide +kernel)]; exact ⟨rfl, rfl⟩))
    (fun os started H enc _ => lifted os started H enc)

theorem proved : Rows.ShapeApartSaid := over
#print axioms proved
end Go.Proofs.Ytkcfgjedhgagdaa.shapeApart
