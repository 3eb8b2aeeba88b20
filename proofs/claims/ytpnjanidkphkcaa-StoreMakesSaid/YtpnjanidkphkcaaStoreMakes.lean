/- The statement StoreMakes holds for every input: how many words a store may have; what it tells is its own; and the chapter's example holds. No condition. -/
import Derived.Test.YtpnjanidkphkcaaRows
import Derived.Test.YtpnjanidkphkcaaStoDo
import Derived.WalkKit
import Derived.ProofKit
import Derived.OpenShut
import Derived.ChangeOld
import Derived.Carry
import Derived.Lib.SmallJoins
namespace Go.Proofs.Ytpnjanidkphkcaa.storeMakes
open Go.ChangeShapes Go.WideShapes Go.ChangeAt Go.RowKit Go.Joins
open Go.Proofs.Ytpnjanidkphkcaa.Pk
set_option linter.unusedVariables false
set_option linter.unusedSimpArgs false

theorem own : ownKnob Try.prog.godebug = none := by kernel_rfl
theorem laidOut : laidOutB Try.prog = true := by kernel_rfl

set_option maxRecDepth 100000 in
set_option maxHeartbeats 1000000 in
theorem walk_much (n at' : Int) (w : World) (h : 5000 < n) (h2 : n ≤ 8388608) :
    Calls Try.prog 4 #[.int .i64 n, .int .i64 at'] w fun e w' => e = .returned (.bool true) ∧ Below w.heap.size w w' := by
  go_enter Try.func4, Try.ntmps4
  go_wp2_with fail
  refine (begun4_any _).mono ?_
  rintro e w1 ⟨rfl, hb⟩
  go_wp2_with fail
  go_ret
  exact ⟨rfl, hb⟩

set_option maxRecDepth 100000 in
set_option maxHeartbeats 1000000 in
theorem walk_none (n at' : Int) (w : World) (h : n < 0 ∨ 8388608 < n) :
    Calls Try.prog 4 #[.int .i64 n, .int .i64 at'] w fun e w' => e = .returned (.bool true) ∧ Below w.heap.size w w' := by
  have HN := Lib.hid h
  rcases h with h | h
  · have h5 : ¬ 5000 < n := by omega
    go_enter Try.func4, Try.ntmps4
    go_wp2_with fail
    refine (new_no n _ HN.out).mono ?_
    rintro e w1 ⟨rfl, rfl⟩
    go_wp2_with fail
    refine (begun4_any _).mono ?_
    rintro e w1 ⟨rfl, hb⟩
    go_wp2_with fail
    go_ret
    exact ⟨rfl, hb⟩
  · have h5 : 5000 < n := by omega
    have h6 : ¬ n < 0 := by omega
    go_enter Try.func4, Try.ntmps4
    go_wp2_with fail
    refine (new_no n _ HN.out).mono ?_
    rintro e w1 ⟨rfl, rfl⟩
    go_wp2_with fail
    refine (begun4_any _).mono ?_
    rintro e w1 ⟨rfl, hb⟩
    go_wp2_with fail
    go_ret
    exact ⟨rfl, hb⟩

set_option maxRecDepth 100000 in
set_option maxHeartbeats 2000000 in
theorem walk_out (q : Nat) (at' : Int) (w : World) (h : q ≤ 5000) (hat : at' < 0 ∨ (q : Int) ≤ at') :
    Calls Try.prog 4 #[.int .i64 (q : Int), .int .i64 at'] w fun e w' => e = .returned (.bool true) ∧ Below w.heap.size w w' := by
  have HA := Lib.hid hat
  clear hat
  go_enter Try.func4, Try.ntmps4
  go_wp2_with fail
  refine (new_yes q _ (by omega)).mono ?_
  rintro e w1 ⟨s, g, rfl, hS, hs, hg, hb⟩
  have HS := Lib.hid hS
  have HB := Lib.hid hb
  clear hS hb hs hg
  go_wp2_with fail
  refine (lenR_any s g q _ HS.out).mono ?_
  rintro e w2 ⟨rfl, rfl⟩
  go_wp2_with fail
  refine (wordsR_any s g q _ HS.out (by omega)).mono ?_
  rintro e w2 ⟨u, rfl, hu, hu2, hb⟩
  have HS2 := Lib.hid (HS.out.later hb)
  have HB2 := Lib.hid (HB.out.trans (hb.mono HB.out.size))
  clear hu hu2 hb HS HB
  go_wp2_with fail
  refine (meter_any s g _ _ _ HS2.out).mono ?_
  rintro e w3 ⟨rfl, rfl⟩
  go_wp2_with fail
  refine (wordsR_any s g q _ HS2.out (by omega)).mono ?_
  rintro e w3 ⟨u, rfl, hu, hu2, hb⟩
  have HB3 := Lib.hid (HB2.out.trans (hb.mono HB2.out.size))
  clear hu hu2 hb
  rcases HA.out with ha | ha
  · go_wp2_with fail
    refine (begun4_any _).mono ?_
    rintro e w4 ⟨rfl, hb⟩
    have HB4 := Lib.hid (HB3.out.trans (hb.mono HB3.out.size))
    clear hb
    go_wp2_with fail
    go_ret
    exact ⟨rfl, HB4.out⟩
  · have ha0 : 0 ≤ at' := by omega
    go_wp2_with fail
    refine (begun4_any _).mono ?_
    rintro e w4 ⟨rfl, hb⟩
    have HB4 := Lib.hid (HB3.out.trans (hb.mono HB3.out.size))
    clear hb
    go_wp2_with fail
    go_ret
    exact ⟨rfl, HB4.out⟩

set_option maxRecDepth 100000 in
set_option maxHeartbeats 2000000 in
theorem walk_in (q k : Nat) (w : World) (h : q ≤ 5000) (hk : k < q) :
    Calls Try.prog 4 #[.int .i64 (q : Int), .int .i64 (k : Int)] w fun e w' => e = .returned (.bool true) ∧ Below w.heap.size w w' := by
  go_enter Try.func4, Try.ntmps4
  go_wp2_with fail
  refine (new_yes q _ (by omega)).mono ?_
  rintro e w1 ⟨s, g, rfl, hS, hs, hg, hb⟩
  have HS := Lib.hid hS
  have HB := Lib.hid hb
  have Hs := Lib.hid hs
  have Hg := Lib.hid hg
  clear hS hb hs hg
  go_wp2_with fail
  refine (lenR_any s g q _ HS.out).mono ?_
  rintro e w2 ⟨rfl, rfl⟩
  go_wp2_with fail
  refine (wordsR_any s g q _ HS.out (by omega)).mono ?_
  rintro e w2 ⟨u, rfl, hu, hu2, hb⟩
  have HS2 := Lib.hid (HS.out.later hb)
  have HB2 := Lib.hid (HB.out.trans (hb.mono HB.out.size))
  clear hu hu2 hb HS HB
  go_wp2_with fail
  refine (meter_any s g _ _ _ HS2.out).mono ?_
  rintro e w3 ⟨rfl, rfl⟩
  go_wp2_with fail
  refine (wordsR_any s g q _ HS2.out (by omega)).mono ?_
  rintro e w3 ⟨u, rfl, hu, hu2, hb⟩
  have HS3 := Lib.hid (HS2.out.later hb)
  have HB3 := Lib.hid (HB2.out.trans (hb.mono HB2.out.size))
  have HU := Lib.hid hu
  have Hus : Hid (¬ s = u ∧ ¬ g = u) := Lib.hid (by have := HS2.out.head.lt; have := HS2.out.body.lt; omega)
  have Hu : Hid (w.heap.size ≤ u) := Lib.hid (by have := HB2.out.size; omega)
  have cu : w3.cell? ⟨u, k, none⟩ = some (.int .u32 (nth (List.replicate q 0) k)) := hu.cell k (words_get (by simpa using hk))
  have fu := hu.free k
  clear hu hu2 hb HS2 HB2
  have i0 : (0 : Int) ≤ (k : Int) := by omega
  have i1 : (k : Int) < (q : Int) := by omega
  go_wp2_with fail
  have HS4 := Lib.hid (HS3.out.touch (Touch.refl (· = u) w3 |>.setCell (p := ⟨u, k, none⟩) (fun _ => rfl) (.int .u32 9)) Hus.out.1 Hus.out.2)
  have HU4 := Lib.hid (HU.out.put k (.int .u32 9) (words_set _ k 9))
  have HB4 := Lib.hid (HB3.out.setCell (p := ⟨u, k, none⟩) Hu.out (.int .u32 9))
  clear cu fu
  generalize w3.setCell ⟨u, k, none⟩ (.int .u32 9) = w4 at *
  refine (peekR_any s g q k _ HS4.out hk).mono ?_
  rintro e w5 ⟨rfl, rfl⟩
  go_wp2_with fail
  refine (load_yes s g q (List.replicate q 0) ((List.replicate q 0).set k 9) 0 (some ⟨u, 0, none⟩) q _ HS4.out (by simp) (by simp) (blk_row HU4.out)).mono ?_
  rintro e w5 ⟨rfl, hS, hT⟩
  have HS5 := Lib.hid hS
  have HB5 := Lib.hid (HB4.out.trans (hT.below (B := w.heap.size) (fun k hk => by rcases hk with rfl | rfl; exact Hs.out; exact Hg.out) HB4.out.size))
  clear hS hT
  go_wp2_with fail
  refine (peekS_any s g q k _ HS5.out hk).mono ?_
  rintro e w6 ⟨rfl, rfl⟩
  go_wp2_with fail
  refine (meter_any s g _ _ _ HS5.out).mono ?_
  rintro e w6 ⟨rfl, rfl⟩
  go_wp2_with fail
  refine (begun4_any _).mono ?_
  rintro e w6 ⟨rfl, hb⟩
  have HB6 := Lib.hid (HB5.out.trans (hb.mono HB5.out.size))
  clear hb
  go_wp2_with fail
  go_ret
  exact ⟨rfl, HB6.out⟩

theorem walk (n at' : Int) (w : World) (hn : (Lit.int .i64 n).wf = true) (hat : (Lit.int .i64 at').wf = true) :
    Calls Try.prog 4 #[.int .i64 n, .int .i64 at'] w fun e w' => e = .returned (.bool true) ∧ Below w.heap.size w w' := by
  by_cases h1 : n < 0 ∨ 8388608 < n
  · exact walk_none n at' w h1
  · by_cases h2 : 5000 < n
    · exact walk_much n at' w h2 (by omega)
    · obtain ⟨q, rfl⟩ := Int.eq_ofNat_of_zero_le (show 0 ≤ n by omega)
      by_cases h3 : at' < 0 ∨ (q : Int) ≤ at'
      · exact walk_out q at' w (by omega) h3
      · obtain ⟨k, rfl⟩ := Int.eq_ofNat_of_zero_le (show 0 ≤ at' by omega)
        exact walk_in q k w (by omega) (by omega)

/-! ### The row -/
set_option maxRecDepth 100000 in
theorem lifted (os : Os) (started : os.Started) (H : Type) (enc : TypeId × Value → H) :
    ReturnsInHanded {} Try.checked os 4 .any (Rows.storeMakesSpec.pre6 enc Try.prog Try.f4 Rows.storeMakesRow.domain false) (Rows.storeMakesSpec.post enc Try.prog Try.f4 false true false false) := by
  refine returnsInHanded_of_change (C := Try.checked) own started (by kernel_rfl) Try.func4
    (ChangeSpec.witness6 (enc := enc) (C := Try.checked) false ⟨#[], #[.int .i64 0, .int .i64 0], []⟩ 8 (by kernel_rfl) (by kernel_rfl) (by kernel_rfl) (by kernel_rfl)) ?_
  intro W base args ds gs before hval0 hW hcnd _
  have hval : ∀ (j : Nat) t v, Try.f4.params[j]? = some t → args[j]? = some v → Value.okWide Try.prog W .any base t v := hval0
  have hW' := hW
  obtain ⟨p, q, hA0, hV, rfl, hfz, hnd⟩ := hW
  have hA : DataW.TrodAll enc Try.prog W 0 (fun _ => true) true Try.f4.params.toList args.toList ds p := hA0
  rw [Try.params4] at hA hval
  obtain ⟨v0, vs0, d0, ds0, p0, q0, hargs, rfl, rfl, h0, r0⟩ := trodAll_cons hA
  obtain ⟨v1, vs1, d1, ds1, p1, q1, rfl, rfl, rfl, h1, r1⟩ := trodAll_cons r0
  obtain ⟨rfl, rfl, rfl⟩ := trodAll_nil r1
  obtain rfl : args = #[v0, v1] := by cases args; simp_all
  obtain ⟨rfl, rfl⟩ := trodVars_none hV
  have k0 := h0
  have lt0 : ∀ x ∈ p0, x.block < W.heap.size := by obtain ⟨m, hm⟩ := k0; exact DataW.trod_lt m _ _ _ hm
  obtain ⟨a0, rfl, hd0, hp0, w0⟩ := open_int Try.underlying3 (hval 0 3 v0 rfl rfl) h0
  have k1 := h1
  have lt1 : ∀ x ∈ p1, x.block < W.heap.size := by obtain ⟨m, hm⟩ := k1; exact DataW.trod_lt m _ _ _ hm
  obtain ⟨a1, rfl, hd1, hp1, w1⟩ := open_int Try.underlying3 (hval 1 3 v1 rfl rfl) h1
  clear hA0 hval0
  refine (walk a0 a1 W w0 w1).mono fun e W' ⟨he, bel⟩ => ?_
  subst he
  exact ⟨_, rfl, _, _, _, [], _, [], hW', trodAll_mk1 (shut_bool Try.underlying4 _), (trodAll_cons_mk (Below.trod laidOut (by kernel_rfl) (of_decide_eq_true (by kernel_rfl)) k0 bel lt0) (trodAll_cons_mk (Below.trod laidOut (by kernel_rfl) (of_decide_eq_true (by kernel_rfl)) k1 bel lt1) trodAll_mk0)), rfl, bel.frame _, fun h => by cases h⟩

theorem over : Rows.storeMakesRow.holds Try.pinned (OpenSpec.ofChange Rows.storeMakesSpec) :=
  OpenClaim.holds_of_wide 4 Try.f4 rfl rfl rfl rfl rfl rfl rfl ⟨rfl, rfl, rfl, rfl, rfl⟩ rfl rfl rfl rfl rfl (by kernel_rfl) Try.func4 (by kernel_rfl)
    (of_decide_eq_true (by kernel_rfl)) (by unfold Func.isWrapper; first | (rw [if_pos (by decide +kernel)]; kernel_rfl) | (rw [if_neg (by decide +kernel)]; exact ⟨rfl, rfl⟩))
    (fun os started H enc _ => lifted os started H enc)

theorem proved : Rows.StoreMakesSaid := over
#print axioms proved
end Go.Proofs.Ytpnjanidkphkcaa.storeMakes
