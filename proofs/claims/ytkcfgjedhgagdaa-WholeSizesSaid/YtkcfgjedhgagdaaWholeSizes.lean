/- The statement WholeSizes holds for every input: the largest object of a configuration that may be has Blocks blocks and Fields fields; one field more is too many; and its last field lies in its last leaf. No condition. -/
import Derived.Test.YtkcfgjedhgagdaaRows
import Derived.Test.YtkcfgjedhgagdaaAwake7
import Derived.Test.YtkcfgjedhgagdaaPlanNums
import Derived.Lib.MinMax
import Derived.Deep.RegionHeld3
import Derived.WalkKit
import Derived.ProofKit
import Derived.OpenShut
import Derived.ChangeOld
import Derived.Carry
import Derived.Lib.SmallJoins
import Derived.ChangeMaps5
namespace Go.Proofs.Ytkcfgjedhgagdaa.wholeSizes
open Go.ChangeShapes Go.WideShapes Go.ChangeAt Go.RowKit Go.Joins
open Go.Proofs.Ytkcfgjedhgagdaa.Pk
set_option linter.unusedVariables false
set_option linter.unusedSimpArgs false

theorem own : ownKnob Try.prog.godebug = none := by kernel_rfl
theorem laidOut : laidOutB Try.prog = true := by kernel_rfl

set_option maxRecDepth 100000 in
set_option maxHeartbeats 1000000 in
theorem walk_no (N W R K x : Int) (w : World) (h : mayB N W R K = false) :
    Calls Try.prog 8 #[.agg #[.int .i64 N, .int .i64 W, .int .i64 R, .int .i64 K], .int .i64 x] w fun e w' => e = .returned (.bool true) ∧ Below w.heap.size w w' := by
  have HX := Lib.hid h
  clear h
  go_enter Try.func8, Try.ntmps8
  go_wp2_with fail
  refine (of_no _ _ _ _ _ HX.out).mono ?_
  rintro e w1 ⟨rfl, hb⟩
  have HB := Lib.hid (below_step (below_new w _) hb)
  clear hb
  go_wp2_with fail
  refine (awake7_any _).mono ?_
  rintro e w2 ⟨rfl, hb⟩
  have HB2 := Lib.hid (below_step (HB.out.alloc HB.out.size _) hb)
  clear hb
  go_wp2_with fail
  refine (awake7_any _).mono ?_
  rintro e w3 ⟨rfl, hb⟩
  have HB3 := Lib.hid (below_step HB2.out hb)
  clear hb
  go_wp2_with fail
  go_ret
  exact ⟨rfl, HB3.out⟩

set_option maxRecDepth 100000 in
set_option maxHeartbeats 2000000 in
theorem walk_yes (N W R K x wd fd ep dr lg st p : Int) (w : World)
    (HO : Hid (∀ w', Calls Try.prog 22 #[.agg #[.int .i64 N, .int .i64 W, .int .i64 R, .int .i64 K]] w' fun e w'' => e = .returned (.tuple #[.agg #[.int .i64 wd, .int .i64 (W - 8), .int .i64 (W - 7), .int .i64 fd, .int .i64 ep, .int .i64 dr, .int .i64 lg, .int .i64 st], .int .i64 0]) ∧ Below w'.heap.size w' w''))
    (w0 : 16 ≤ W) (w1' : W ≤ 256) (hfd : fieldsI W = fd) (hp : min (max x 0) fd = p) :
    Calls Try.prog 8 #[.agg #[.int .i64 N, .int .i64 W, .int .i64 R, .int .i64 K], .int .i64 x] w fun e w' => e = .returned (.bool true) ∧ Below w.heap.size w w' := by
  have hf := fields_bd w0 w1'
  have M := most_fields w0 w1'
  have hz : sizeE W p (fd - p) = 0 := sizeE_mk w0 w1' (by omega) (by omega) (by omega)
  have E1 : Hid (blocksV W p (fd - p) = W - 7 ∧ sizeE W p (fd - p) = 0) := Lib.hid ⟨by unfold blocksV; rw [if_pos hz, show p + (fd - p) = fieldsI W by omega, M.1]; omega, hz⟩
  have hz2 : sizeE W p (fd - p + 1) = 3 := by unfold sizeE; rw [if_pos (widB_mk w0 w1'), if_pos (Or.inr (Or.inr (by omega)))]
  have E2 : Hid (blocksV W p (fd - p + 1) = 0 ∧ sizeE W p (fd - p + 1) = 3) := Lib.hid ⟨by unfold blocksV; rw [hz2]; rfl, hz2⟩
  have hpl : placeE W fd (fd - 1) = 0 := placeE_mk (wrongE_mk w0 w1' (by omega) (by omega)) (by omega) (by omega)
  have hbig : W - 8 < fd := by
    have h1 := leaf_le (m := W - 1) (a := 2) (b := W - 8) (by omega) (by omega)
    have h2 : (W - 8) * (W - 1) = fieldsI W := rfl
    omega
  have hlast : placeL W fd (fd - 1) = W - 9 ∧ placeO W fd (fd - 1) = W - 1 := by
    obtain ⟨e1, e2⟩ := place_big hpl hbig
    have h2 : (W - 9 + 1) * (W - 1) = fieldsI W := by rw [show W - 9 + 1 = W - 8 by omega]; rfl
    rw [Int.add_mul] at h2
    obtain ⟨q1, q2⟩ := part_is (m := W - 1) (q := W - 9) (r := W - 2) (by omega) (by omega)
    have h3 : fd - 1 = (W - 9) * (W - 1) + (W - 2) := by omega
    rw [e1, e2, h3, q1, q2]
    omega
  have E3 : Hid (placeL W fd (fd - 1) = W - 8 - 1 ∧ placeO W fd (fd - 1) = W - 1 ∧ placeE W fd (fd - 1) = 0) := Lib.hid ⟨by rw [hlast.1]; omega, hlast.2, hpl⟩
  have E4 : Hid (largestV W (W - 7) = fd) := Lib.hid (by rw [M.2, hfd])
  have HP := Lib.hid hp
  have p0 : 0 ≤ p := by omega
  have p1 : p ≤ fd := by omega
  rw [hfd] at hf
  clear M hz hz2 hpl hbig hlast hfd hp
  go_enter Try.func8, Try.ntmps8
  go_wp2_with fail
  refine (HO.out _).mono ?_
  rintro e w1 ⟨rfl, hb⟩
  have hz1 : w.heap.size < w1.heap.size := by have := hb.size; simp at this; omega
  have k1 := ((Blk.new w #[.int .i64 N, .int .i64 W, .int .i64 R, .int .i64 K] 37).later hb).cell 1 rfl
  have HB := Lib.hid (below_step (below_new w _) hb)
  clear hb
  go_wp2_with fail
  refine (awake7_any _).mono ?_
  rintro e w2 ⟨rfl, hb⟩
  have hz2 : w1.heap.size < w2.heap.size := by have := hb.size; simp at this; omega
  have hz2' : w.heap.size < w2.heap.size := by omega
  have hB := Blk.new w1 #[.int .i64 wd, .int .i64 (W - 8), .int .i64 (W - 7), .int .i64 fd, .int .i64 ep, .int .i64 dr, .int .i64 lg, .int .i64 st] 39
  have hN := Lib.hid (hB.later hb)
  have HC : Hid (w2.cell? ⟨w.heap.size, 1, none⟩ = some (.int .i64 W)) := Lib.hid (by
    rw [(bcell hb).1 _ _ (by simp; omega), World.cell?_alloc_past _ _ _ (by omega)]; exact k1)
  have HB2 := Lib.hid (below_step (HB.out.alloc HB.out.size _) hb)
  clear hb k1 hB
  have a3 := hN.out.cell 3 rfl
  have c1 := HC.out
  go_wp2_with fail
  rw [HP.out]
  go_wp2_with fail
  refine (blocks_lit _ _ _ _ _ _ E1.out.1 E1.out.2).mono ?_
  rintro e w3 ⟨rfl, hb⟩
  have hz3 : w1.heap.size < w3.heap.size := by have := hb.size; omega
  have hz3' : w.heap.size < w3.heap.size := by omega
  have hN3 := Lib.hid (hN.out.later hb)
  have HC3 : Hid (w3.cell? ⟨w.heap.size, 1, none⟩ = some (.int .i64 W)) := Lib.hid (by rw [(bcell hb).1 _ _ (by simpa using hz2')]; exact HC.out)
  have HB3 := Lib.hid (below_step HB2.out hb)
  clear hb a3 c1
  have a3 := hN3.out.cell 3 rfl
  have c1 := HC3.out
  go_wp2_with fail
  refine (blocks_lit _ _ _ _ _ _ E2.out.1 E2.out.2).mono ?_
  rintro e w4 ⟨rfl, hb⟩
  have hz4 : w1.heap.size < w4.heap.size := by have := hb.size; omega
  have hz4' : w.heap.size < w4.heap.size := by omega
  have hN4 := Lib.hid (hN3.out.later hb)
  have HC4 : Hid (w4.cell? ⟨w.heap.size, 1, none⟩ = some (.int .i64 W)) := Lib.hid (by rw [(bcell hb).1 _ _ (by simpa using hz3')]; exact HC3.out)
  have HB4 := Lib.hid (below_step HB3.out hb)
  clear hb a3 c1
  have a3 := hN4.out.cell 3 rfl
  have c1 := HC4.out
  go_wp2_with fail
  refine (place_lit _ _ _ _ _ _ _ E3.out.1 E3.out.2.1 E3.out.2.2).mono ?_
  rintro e w5 ⟨rfl, hb⟩
  have hz5 : w1.heap.size < w5.heap.size := by have := hb.size; omega
  have hz5' : w.heap.size < w5.heap.size := by omega
  have hN5 := Lib.hid (hN4.out.later hb)
  have HC5 : Hid (w5.cell? ⟨w.heap.size, 1, none⟩ = some (.int .i64 W)) := Lib.hid (by rw [(bcell hb).1 _ _ (by simpa using hz4')]; exact HC4.out)
  have HB5 := Lib.hid (below_step HB4.out hb)
  clear hb a3 c1
  have v1 : IntKind.i64.wrap (W - 8 - 1) = W - 8 - 1 := IntWalk.i64_in _ (by omega)
  have v2 : IntKind.i64.wrap (W - 1) = W - 1 := IntWalk.i64_in _ (by omega)
  have a1 := hN5.out.cell 1 rfl
  have a2 := hN5.out.cell 2 rfl
  have a3 := hN5.out.cell 3 rfl
  have c1 := HC5.out
  go_wp2_with fail
  go_region_held3 (fun w' => w'.cell? ⟨w.heap.size, 1, none⟩ = some (.int .i64 W) ∧ w'.cell? ⟨w1.heap.size, 1, none⟩ = some (.int .i64 (W - 8)) ∧ w'.cell? ⟨w1.heap.size, 2, none⟩ = some (.int .i64 (W - 7)) ∧ w'.cell? ⟨w1.heap.size, 3, none⟩ = some (.int .i64 fd)) (first | exact ⟨d1, d2, d3, d4⟩ | exact ⟨c1, a1, a2, a3⟩)
    (first | (go_at_call 20; refine (largest_lit _ _ _ _ E4.out).mono ?_; rintro e w6 ⟨rfl, hb⟩; have hN6 := hN5.out.drew.later hb; have d2 := hN6.cell 1 rfl; have d3 := hN6.cell 2 rfl; have d4 := hN6.cell 3 rfl; have d1 : w6.cell? ⟨w.heap.size, 1, none⟩ = some (.int .i64 W) := (by rw [(bcell hb).1 _ _ (by simpa using hz5')]; exact HC5.out); clear hN6; have HB6 := Lib.hid (below_step HB5.out (below_undrew' hb)); clear hb))
  have HB6 := HB6
  go_wp2_with fail
  go_ret
  exact ⟨rfl, HB6.out⟩

theorem walk (N W R K x : Int) (w : World) (h0 : (Lit.int .i64 N).wf = true) (h1 : (Lit.int .i64 W).wf = true) (h2 : (Lit.int .i64 R).wf = true) (h3 : (Lit.int .i64 K).wf = true) (h4 : (Lit.int .i64 x).wf = true) :
    Calls Try.prog 8 #[.agg #[.int .i64 N, .int .i64 W, .int .i64 R, .int .i64 K], .int .i64 x] w fun e w' => e = .returned (.bool true) ∧ Below w.heap.size w w' := by
  cases hm : mayB N W R K with
  | false => exact walk_no N W R K x w hm
  | true =>
    have h := may_of hm
    exact walk_yes N W R K x _ _ _ _ _ _ _ w (Lib.hid (fun w' => of_yes N W R K w' h)) h.w0 h.w1 rfl rfl

/-! ### The row -/
set_option maxRecDepth 100000 in
theorem lifted (os : Os) (started : os.Started) (H : Type) (enc : TypeId × Value → H) :
    ReturnsInHanded {} Try.checked os 8 .any (Rows.wholeSizesSpec.pre6 enc Try.prog Try.f8 Rows.wholeSizesRow.domain false) (Rows.wholeSizesSpec.post enc Try.prog Try.f8 false true false false) := by
  refine returnsInHanded_of_change (C := Try.checked) own started (by kernel_rfl) Try.func8
    (ChangeSpec.witness6 (enc := enc) (C := Try.checked) false ⟨#[], #[.agg #[.int .i64 0, .int .i64 0, .int .i64 0, .int .i64 0], .int .i64 0], []⟩ 8 (by kernel_rfl) (by kernel_rfl) (by kernel_rfl) (by kernel_rfl)) ?_
  intro W base args ds gs before hval0 hW hcnd _
  have hval : ∀ (j : Nat) t v, Try.f8.params[j]? = some t → args[j]? = some v → Value.okWide Try.prog W .any base t v := hval0
  have hW' := hW
  obtain ⟨p, q, hA0, hV, rfl, hfz, hnd⟩ := hW
  have hA : DataW.TrodAll enc Try.prog W 0 (fun _ => true) true Try.f8.params.toList args.toList ds p := hA0
  rw [Try.params8] at hA hval
  obtain ⟨v0, vs0, d0, ds0, p0, q0, hargs, rfl, rfl, h0, r0⟩ := trodAll_cons hA
  obtain ⟨v1, vs1, d1, ds1, p1, q1, rfl, rfl, rfl, h1, r1⟩ := trodAll_cons r0
  obtain ⟨rfl, rfl, rfl⟩ := trodAll_nil r1
  obtain rfl : args = #[v0, v1] := by cases args; simp_all
  obtain ⟨rfl, rfl⟩ := trodVars_none hV
  have k0 := h0
  have lt0 : ∀ x ∈ p0, x.block < W.heap.size := by obtain ⟨m, hm⟩ := k0; exact DataW.trod_lt m _ _ _ hm
  obtain ⟨c00, c01, c02, c03, y00, y01, y02, y03, m0, rfl, hd0, hp0, hy00, hy01, hy02, hy03⟩ := open_agg4 Try.underlying37 (by kernel_rfl) (by kernel_rfl) (hval 0 37 v0 rfl rfl) h0
  obtain ⟨a00, e00, hdd00, w00⟩ := DataW.trod_int Try.underlying3 hy00
  obtain ⟨a01, e01, hdd01, w01⟩ := DataW.trod_int Try.underlying3 hy01
  obtain ⟨a02, e02, hdd02, w02⟩ := DataW.trod_int Try.underlying3 hy02
  obtain ⟨a03, e03, hdd03, w03⟩ := DataW.trod_int Try.underlying3 hy03
  simp at e00 e01 e02 e03
  subst e00 e01 e02 e03
  have k1 := h1
  have lt1 : ∀ x ∈ p1, x.block < W.heap.size := by obtain ⟨m, hm⟩ := k1; exact DataW.trod_lt m _ _ _ hm
  obtain ⟨a1, rfl, hd1, hp1, w1⟩ := open_int Try.underlying3 (hval 1 3 v1 rfl rfl) h1
  clear hA0 hval0
  refine (walk a00 a01 a02 a03 a1 W w00 w01 w02 w03 w1).mono fun e W' ⟨he, bel⟩ => ?_
  subst he
  exact ⟨_, rfl, _, _, _, [], _, [], hW', trodAll_mk1 (shut_bool Try.underlying4 _), (trodAll_cons_mk (Below.trod laidOut (by kernel_rfl) (of_decide_eq_true (by kernel_rfl)) k0 bel lt0) (trodAll_cons_mk (Below.trod laidOut (by kernel_rfl) (of_decide_eq_true (by kernel_rfl)) k1 bel lt1) trodAll_mk0)), rfl, bel.frame _, fun h => by cases h⟩

theorem over : Rows.wholeSizesRow.holds Try.pinned (OpenSpec.ofChange Rows.wholeSizesSpec) :=
  OpenClaim.holds_of_wide 8 Try.f8 rfl rfl rfl rfl rfl rfl rfl ⟨rfl, rfl, rfl, rfl, rfl⟩ rfl rfl rfl rfl rfl (by kernel_rfl) Try.func8 (by kernel_rfl)
    (of_decide_eq_true (by kernel_rfl)) (by unfold Func.isWrapper; first | (rw [if_pos (by decide +kernel)]; kernel_rfl) | (rw [if_neg (by decide +kernel)]; exact ⟨rfl, rfl⟩))
    (fun os started H enc _ => lifted os started H enc)

theorem proved : Rows.WholeSizesSaid := over
#print axioms proved
end Go.Proofs.Ytkcfgjedhgagdaa.wholeSizes
