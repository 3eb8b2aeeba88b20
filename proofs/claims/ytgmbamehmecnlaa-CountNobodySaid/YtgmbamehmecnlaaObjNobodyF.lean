/-
  Layer 11: a nil ground has no objects (from the bundles).
-/
import Derived.Test.YtgmbamehmecnlaaObjLaw
namespace Go.Proofs.Ytgmbamehmecnlaa.Pk
open Go.RowKit
set_option linter.unusedVariables false
set_option linter.unusedSimpArgs false

/-- What package obj returns of a nil ground (a bundle). -/
structure ObjNil : Prop where
  make : ∀ (r i : Int) (w : World), Calls Try.prog 10 #[.pointer none, .int .i64 r, .int .i64 i] w fun e w' => e = .returned (.tuple #[.int .i64 0, .int .i64 1]) ∧ Below w.heap.size w w'
  ptr : ∀ (r i : Int) (w : World), Calls Try.prog 37 #[.pointer none, .int .i64 r, .int .i64 i] w fun e w' => e = .returned (.tuple #[.int .i64 0, .int .i64 8]) ∧ Below w.heap.size w w'
  data : ∀ (r i : Int) (w : World), Calls Try.prog 38 #[.pointer none, .int .i64 r, .int .i64 i] w fun e w' => e = .returned (.tuple #[.int .u32 0, .int .i64 8]) ∧ Below w.heap.size w w'
  lens : ∀ (r : Int) (w : World), Calls Try.prog 39 #[.pointer none, .int .i64 r] w fun e w' => ∃ p d, e = .returned (.tuple #[.int .i64 p, .int .i64 d, .int .i64 8]) ∧ Below w.heap.size w w'
  see : ∀ (r : Int) (w : World), Calls Try.prog 12 #[.pointer none, .int .i64 r] w fun e w' => e = .returned (.tuple #[.agg #[.slice none 0 0, .slice none 0 0], .bool false]) ∧ Below w.heap.size w w'
  setptr : ∀ (r i x : Int) (w : World), Calls Try.prog 23 #[.pointer none, .int .i64 r, .int .i64 i, .int .i64 x] w fun e w' => e = .returned (.int .i64 8) ∧ Below w.heap.size w w'
  setdata : ∀ (r i x : Int) (w : World), Calls Try.prog 24 #[.pointer none, .int .i64 r, .int .i64 i, .int .u32 x] w fun e w' => e = .returned (.int .i64 8) ∧ Below w.heap.size w w'
  is_ : ∀ (r : Int) (w : World), Calls Try.prog 40 #[.pointer none, .int .i64 r] w fun e w' => e = .returned (.bool false) ∧ Below w.heap.size w w'
  blocks : ∀ (r : Int) (w : World), Calls Try.prog 22 #[.pointer none, .int .i64 r] w fun e w' => e = .returned (.int .i64 0) ∧ Below w.heap.size w w'
  shed : ∀ (r i : Int) (w : World), Calls Try.prog 41 #[.pointer none, .int .i64 r, .int .i64 i] w fun e w' => e = .returned (.bool false) ∧ Below w.heap.size w w'
  end_ : ∀ (r : Int) (w : World), Calls Try.prog 42 #[.pointer none, .int .i64 r] w fun e w' => e = .returned (.bool false) ∧ Below w.heap.size w w'
set_option maxRecDepth 100000 in
set_option maxHeartbeats 4000000 in
theorem objNobody_any (F : PoolFns) (O : ObjFns) (N : ObjNil) (r i x : Int) (w : World) :
    Calls Try.prog 8 #[.int .i64 r, .int .i64 i, .int .i64 x] w fun e w' => e = .returned (.bool true) ∧ Below w.heap.size w w' := by
  go_enter Try.func8, Try.ntmps8
  have HB0 : Hid (Below w.heap.size w w) := Lib.hid (Below.refl _ _)
  go_wp2_with fail
  refine (N.make i x _).mono ?_
  rintro e w1 ⟨rfl, hb⟩
  have HB1 := Lib.hid (below_step HB0.out hb)
  clear hb
  go_wp2_with fail
  refine (N.ptr r i _).mono ?_
  rintro e w2 ⟨rfl, hb⟩
  have HB2 := Lib.hid (below_step HB1.out hb)
  clear hb
  go_wp2_with fail
  refine (N.data r i _).mono ?_
  rintro e w3 ⟨rfl, hb⟩
  have HB3 := Lib.hid (below_step HB2.out hb)
  clear hb
  go_wp2_with fail
  refine (N.lens r _).mono ?_
  rintro e w4 ⟨p, d, rfl, hb⟩
  have HB4 := Lib.hid (below_step HB3.out hb)
  clear hb
  go_wp2_with fail
  refine (N.see r _).mono ?_
  rintro e w5 ⟨rfl, hb⟩
  have HB5 := Lib.hid (below_step HB4.out hb)
  clear hb
  have HB5b := Lib.hid (HB5.out.alloc HB5.out.size (.cells #[.slice none 0 0, .slice none 0 0] 37))
  go_wp2_with fail
  refine (N.setptr r i x _).mono ?_
  rintro e w6 ⟨rfl, hb⟩
  have HB6 := Lib.hid (below_step HB5b.out hb)
  clear hb
  go_wp2_with fail
  refine (N.setdata r i 1 _).mono ?_
  rintro e w7 ⟨rfl, hb⟩
  have HB7 := Lib.hid (below_step HB6.out hb)
  clear hb
  go_wp2_with fail
  refine (N.is_ r _).mono ?_
  rintro e w8 ⟨rfl, hb⟩
  have HB8 := Lib.hid (below_step HB7.out hb)
  clear hb
  go_wp2_with fail
  refine (N.blocks r _).mono ?_
  rintro e w9 ⟨rfl, hb⟩
  have HB9 := Lib.hid (below_step HB8.out hb)
  clear hb
  go_wp2_with fail
  refine (N.shed r i _).mono ?_
  rintro e w10 ⟨rfl, hb⟩
  have HB10 := Lib.hid (below_step HB9.out hb)
  clear hb
  go_wp2_with fail
  refine (N.end_ r _).mono ?_
  rintro e w11 ⟨rfl, hb⟩
  have HB11 := Lib.hid (below_step HB10.out hb)
  clear hb
  go_wp2_with fail
  refine (begun11_any F O _).mono ?_
  rintro e w12 ⟨rfl, hb⟩
  have HB12 := Lib.hid (below_step HB11.out hb)
  clear hb
  go_wp2_with fail
  go_ret
  exact ⟨rfl, HB12.out⟩

end Go.Proofs.Ytgmbamehmecnlaa.Pk
