/-
  Layer 12: of a nil ground, and of no object, there is no count (from the bundles).
-/
import Derived.Test.YtgmbamehmecnlaaCountLaw
namespace Go.Proofs.Ytgmbamehmecnlaa.Pk
open Go.RowKit
set_option linter.unusedVariables false
set_option linter.unusedSimpArgs false

/-- What package count returns of a nil ground (a bundle). -/
structure CountNil : Prop where
  up : ∀ (r : Int) (w : World), Calls Try.prog 13 #[.pointer none, .int .i64 r] w fun e w' => e = .returned (.tuple #[.int .i64 0, .bool false]) ∧ Below w.heap.size w w'
  down : ∀ (r : Int) (w : World), Calls Try.prog 14 #[.pointer none, .int .i64 r] w fun e w' => e = .returned (.tuple #[.int .i64 0, .bool false]) ∧ Below w.heap.size w w'
  of_ : ∀ (r : Int) (w : World), Calls Try.prog 15 #[.pointer none, .int .i64 r] w fun e w' => e = .returned (.int .i64 0) ∧ Below w.heap.size w w'
  see : ∀ (r : Int) (w : World), Calls Try.prog 18 #[.pointer none, .int .i64 r] w fun e w' => e = .returned (.int .i64 0) ∧ Below w.heap.size w w'
set_option maxRecDepth 100000 in
set_option maxHeartbeats 4000000 in
theorem countNobody_any (F : PoolFns) (O : ObjFns) (C : CountFns) (N : CountNil) (r : Int) (hr : In64 r) (w : World) :
    Calls Try.prog 4 #[.int .i64 r] w fun e w' => e = .returned (.bool true) ∧ Below w.heap.size w w' := by
  go_enter Try.func4, Try.ntmps4
  have HB0 : Hid (Below w.heap.size w w) := Lib.hid (Below.refl _ _)
  go_wp2_with fail
  refine (openedW16 F 3 _ (by decide) (by decide)).mono ?_
  rintro e w1 ⟨p, z0, q, _, rfl, h0, _, _, _⟩
  have H0 := Lib.hid h0
  have HB1 := Lib.hid h0.below
  have HOb : Hid (obAt [] r = none) := Lib.hid rfl
  have HR := Lib.hid hr
  clear h0
  go_wp2_with fail
  refine (N.up r _).mono ?_
  rintro e w2 ⟨rfl, hb⟩
  have HB2 := Lib.hid (below_step HB1.out hb)
  have H2 := Lib.hid (H0.out.later hb)
  clear hb
  go_wp2_with fail
  refine (N.down r _).mono ?_
  rintro e w3 ⟨rfl, hb⟩
  have HB3 := Lib.hid (below_step HB2.out hb)
  have H3 := Lib.hid (H2.out.later hb)
  clear hb
  go_wp2_with fail
  refine (H3.out.act (C.up_no _ _ _ [] r H3.out.wz H3.out.heap HR.out HOb.out) H3.out.heap).mono ?_
  rintro e w4 ⟨rfl, hS, _⟩
  have HS4 := Lib.hid hS
  have HB4 := Lib.hid hS.below
  clear hS
  go_wp2_with fail
  refine (HS4.out.act (C.down_no _ _ _ [] r HS4.out.wz HS4.out.heap HR.out HOb.out) HS4.out.heap).mono ?_
  rintro e w5 ⟨rfl, hS, _⟩
  have HS5 := Lib.hid hS
  have HB5 := Lib.hid hS.below
  clear hS
  go_wp2_with fail
  refine (N.of_ r _).mono ?_
  rintro e w6 ⟨rfl, hb⟩
  have HB6 := Lib.hid (below_step HB5.out hb)
  have H6 := Lib.hid (HS5.out.later hb)
  clear hb
  go_wp2_with fail
  refine (N.see r _).mono ?_
  rintro e w7 ⟨rfl, hb⟩
  have HB7 := Lib.hid (below_step HB6.out hb)
  have H7 := Lib.hid (H6.out.later hb)
  clear hb
  go_wp2_with fail
  refine (H7.out.act (C.of_no _ _ _ [] r H7.out.wz H7.out.heap HR.out HOb.out) H7.out.heap).mono ?_
  rintro e w8 ⟨rfl, hS, _⟩
  have HS8 := Lib.hid hS
  have HB8 := Lib.hid hS.below
  clear hS
  go_wp2_with fail
  refine (HS8.out.look (C.see_no _ _ _ [] r HS8.out.wz HS8.out.heap HR.out HOb.out)).mono ?_
  rintro e w9 ⟨rfl, hb⟩
  have HB9 := Lib.hid (below_step HB8.out hb)
  clear hb
  go_wp2_with fail
  refine (begun12_any F O C _).mono ?_
  rintro e w10 ⟨rfl, hb⟩
  have HB10 := Lib.hid (below_step HB9.out hb)
  clear hb
  go_wp2_with fail
  go_ret
  exact ⟨rfl, HB10.out⟩

end Go.Proofs.Ytgmbamehmecnlaa.Pk
