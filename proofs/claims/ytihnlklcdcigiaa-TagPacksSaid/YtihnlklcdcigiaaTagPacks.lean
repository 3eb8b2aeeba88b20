/- The word of any tag, or that it is not right, is what the document says; for every tag. -/
import Derived.Test.YtihnlklcdcigiaaRows
import Derived.Test.YtihnlklcdcigiaaAgg
import Derived.Test.YtihnlklcdcigiaaTagName
import Derived.Test.YtihnlklcdcigiaaRefTag2
import Derived.WalkKit
import Derived.ProofKit
import Derived.OpenShut
import Derived.ChangeOld
import Derived.Carry
import Derived.Lib.SmallJoins
import Derived.ChangeMaps5
namespace Go.Proofs.Ytihnlklcdcigiaa.tagPacks
open Go.ChangeShapes Go.WideShapes Go.ChangeAt Go.RowKit Go.Joins
open Go.Proofs.Ytihnlklcdcigiaa.Pk
set_option linter.unusedVariables false
set_option linter.unusedSimpArgs false

theorem own : ownKnob Try.prog.godebug = none := by kernel_rfl
theorem laidOut : laidOutB Try.prog = true := by kernel_rfl

theorem walk_yes (k c n s d g o : Int) (w : World) (hr : rightB k c n s d g o = true) :
    Calls Try.prog 3 #[.agg #[.int .i64 k, .int .i64 c, .int .i64 n, .int .i64 s, .int .i64 d, .int .i64 g, .int .i64 o]] w fun e w' => e = .returned (.bool true) ∧ Below w.heap.size w w' := by
  have hR := Lib.hid (rightB_yes hr)
  have ep := Lib.hid (packV_yes hr)
  have ee := Lib.hid (packE_yes hr)
  go_enter Try.func3, Try.ntmps3
  go_wp2_with fail
  refine (tpack_any _ _ _ _ _ _ _ _).mono ?_
  rw [ep.out, ee.out]
  rintro e w1 ⟨rfl, hb⟩
  obtain ⟨hc, hf⟩ := bcell hb
  have hz : w.heap.size < w1.heap.size := by first | simpa using hb.size | (have := hb.size; simp at this; omega)
  have HB1 := Lib.hid (below_step (below_new w _) hb)
  clear hb
  go_wp2_with fail
  refine (refRightT_any _ _ _ _ _ _ _ _).mono ?_
  rw [hr]
  rintro e w2 ⟨rfl, hb⟩
  obtain ⟨hc2, hf2⟩ := bcell hb
  have hz2 : w.heap.size < w2.heap.size := by have := hb.size; omega
  have HB2 := Lib.hid (below_step HB1.out hb)
  clear hb
  go_wp2_with fail
  refine (tright_any _ _ _ _ _ _ _ _).mono ?_
  rw [hr]
  rintro e w3 ⟨rfl, hb⟩
  obtain ⟨hc3, hf3⟩ := bcell hb
  have hz3 : w.heap.size < w3.heap.size := by have := hb.size; omega
  have HB3 := Lib.hid (below_step HB2.out hb)
  clear hb
  go_wp2_with fail
  refine (refPackT_any _ _ _ _ _ _ _ _ hR.out).mono ?_
  rintro e w4 ⟨rfl, hb⟩
  have HB4 := Lib.hid (below_step HB3.out hb)
  clear hb
  go_wp2_with fail
  refine (begun6_any _).mono ?_
  rintro e w5 ⟨rfl, hb⟩
  have HB5 := Lib.hid (below_step HB4.out hb)
  clear hb
  go_wp2_with fail
  go_ret
  exact ⟨rfl, HB5.out⟩

theorem walk_no (k c n s d g o : Int) (w : World) (hr : rightB k c n s d g o = false) :
    Calls Try.prog 3 #[.agg #[.int .i64 k, .int .i64 c, .int .i64 n, .int .i64 s, .int .i64 d, .int .i64 g, .int .i64 o]] w fun e w' => e = .returned (.bool true) ∧ Below w.heap.size w w' := by
  have ep := Lib.hid (packV_no hr)
  have ee := Lib.hid (packE_no hr)
  go_enter Try.func3, Try.ntmps3
  go_wp2_with fail
  refine (tpack_any _ _ _ _ _ _ _ _).mono ?_
  rw [ep.out, ee.out]
  rintro e w1 ⟨rfl, hb⟩
  obtain ⟨hc, hf⟩ := bcell hb
  have hz : w.heap.size < w1.heap.size := by first | simpa using hb.size | (have := hb.size; simp at this; omega)
  have HB1 := Lib.hid (below_step (below_new w _) hb)
  clear hb
  go_wp2_with fail
  refine (refRightT_any _ _ _ _ _ _ _ _).mono ?_
  rw [hr]
  rintro e w2 ⟨rfl, hb⟩
  obtain ⟨hc2, hf2⟩ := bcell hb
  have hz2 : w.heap.size < w2.heap.size := by have := hb.size; omega
  have HB2 := Lib.hid (below_step HB1.out hb)
  clear hb
  go_wp2_with fail
  refine (tright_any _ _ _ _ _ _ _ _).mono ?_
  rw [hr]
  rintro e w3 ⟨rfl, hb⟩
  have HB3 := Lib.hid (below_step HB2.out hb)
  clear hb
  go_wp2_with fail
  refine (begun6_any _).mono ?_
  rintro e w5 ⟨rfl, hb⟩
  have HB5 := Lib.hid (below_step HB3.out hb)
  clear hb
  go_wp2_with fail
  go_ret
  exact ⟨rfl, HB5.out⟩

theorem walk (k c n s d g o : Int) (w : World) (w0 : (Lit.int .i64 k).wf = true) (w1 : (Lit.int .i64 c).wf = true) (w2 : (Lit.int .i64 n).wf = true) (w3 : (Lit.int .i64 s).wf = true) (w4 : (Lit.int .i64 d).wf = true) (w5 : (Lit.int .i64 g).wf = true) (w6 : (Lit.int .i64 o).wf = true) :
    Calls Try.prog 3 #[.agg #[.int .i64 k, .int .i64 c, .int .i64 n, .int .i64 s, .int .i64 d, .int .i64 g, .int .i64 o]] w fun e w' => e = .returned (.bool true) ∧ Below w.heap.size w w' := by
  cases hr : rightB k c n s d g o with
  | true => exact walk_yes k c n s d g o w hr
  | false => exact walk_no k c n s d g o w hr

/-! ### The row -/
set_option maxRecDepth 100000 in
theorem lifted (os : Os) (started : os.Started) (H : Type) (enc : TypeId × Value → H) :
    ReturnsInHanded {} Try.checked os 3 .any (Rows.tagPacksSpec.pre6 enc Try.prog Try.f3 Rows.tagPacksRow.domain false) (Rows.tagPacksSpec.post enc Try.prog Try.f3 false true false false) := by
  refine returnsInHanded_of_change (C := Try.checked) own started (by kernel_rfl) Try.func3
    (ChangeSpec.witness6 (enc := enc) (C := Try.checked) false ⟨#[], #[.agg #[.int .i64 0, .int .i64 0, .int .i64 0, .int .i64 0, .int .i64 0, .int .i64 0, .int .i64 0]], []⟩ 8 (by kernel_rfl) (by kernel_rfl) (by kernel_rfl) (by kernel_rfl)) ?_
  intro W base args ds gs before hval0 hW hcnd _
  have hval : ∀ (j : Nat) t v, Try.f3.params[j]? = some t → args[j]? = some v → Value.okWide Try.prog W .any base t v := hval0
  have hW' := hW
  obtain ⟨p, q, hA0, hV, rfl, hfz, hnd⟩ := hW
  have hA : DataW.TrodAll enc Try.prog W 0 (fun _ => true) true Try.f3.params.toList args.toList ds p := hA0
  rw [Try.params3] at hA hval
  obtain ⟨v0, vs0, d0, ds0, p0, q0, hargs, rfl, rfl, h0, r0⟩ := trodAll_cons hA
  obtain ⟨rfl, rfl, rfl⟩ := trodAll_nil r0
  obtain rfl : args = #[v0] := by cases args; simp_all
  obtain ⟨rfl, rfl⟩ := trodVars_none hV
  have k0 := h0
  have lt0 : ∀ x ∈ p0, x.block < W.heap.size := by obtain ⟨m, hm⟩ := k0; exact DataW.trod_lt m _ _ _ hm
  obtain ⟨rs0, hk0, rfl, hok0⟩ := open_flds Try.underlying23 (by kernel_rfl) (by kernel_rfl) [.int .i64, .int .i64, .int .i64, .int .i64, .int .i64, .int .i64, .int .i64] ⟨Try.underlying3, Try.underlying3, Try.underlying3, Try.underlying3, Try.underlying3, Try.underlying3, Try.underlying3, trivial⟩ (hval 0 23 v0 rfl rfl) h0
  obtain ⟨f00, rs0, rfl, g00, hk0⟩ := flds_cons hk0
  obtain ⟨f01, rs0, rfl, g01, hk0⟩ := flds_cons hk0
  obtain ⟨f02, rs0, rfl, g02, hk0⟩ := flds_cons hk0
  obtain ⟨f03, rs0, rfl, g03, hk0⟩ := flds_cons hk0
  obtain ⟨f04, rs0, rfl, g04, hk0⟩ := flds_cons hk0
  obtain ⟨f05, rs0, rfl, g05, hk0⟩ := flds_cons hk0
  obtain ⟨f06, rs0, rfl, g06, hk0⟩ := flds_cons hk0
  obtain rfl := flds_nil hk0
  obtain ⟨a00, rfl⟩ := fld_int g00
  obtain ⟨a01, rfl⟩ := fld_int g01
  obtain ⟨a02, rfl⟩ := fld_int g02
  obtain ⟨a03, rfl⟩ := fld_int g03
  obtain ⟨a04, rfl⟩ := fld_int g04
  obtain ⟨a05, rfl⟩ := fld_int g05
  obtain ⟨a06, rfl⟩ := fld_int g06
  have w00 : (Fld.int .i64 a00).ok W := hok0 _ (by simp)
  have w01 : (Fld.int .i64 a01).ok W := hok0 _ (by simp)
  have w02 : (Fld.int .i64 a02).ok W := hok0 _ (by simp)
  have w03 : (Fld.int .i64 a03).ok W := hok0 _ (by simp)
  have w04 : (Fld.int .i64 a04).ok W := hok0 _ (by simp)
  have w05 : (Fld.int .i64 a05).ok W := hok0 _ (by simp)
  have w06 : (Fld.int .i64 a06).ok W := hok0 _ (by simp)
  clear hA0 hval0
  refine (walk a00 a01 a02 a03 a04 a05 a06 W w00 w01 w02 w03 w04 w05 w06).mono fun e W' ⟨he, bel⟩ => ?_
  subst he
  exact ⟨_, rfl, _, _, _, [], _, [], hW', trodAll_mk1 (shut_bool Try.underlying4 _), (trodAll_cons_mk (Below.trod laidOut (by kernel_rfl) (of_decide_eq_true (by kernel_rfl)) k0 bel lt0) trodAll_mk0), rfl, bel.frame _, fun h => by cases h⟩

theorem over : Rows.tagPacksRow.holds Try.pinned (OpenSpec.ofChange Rows.tagPacksSpec) :=
  OpenClaim.holds_of_wide 3 Try.f3 rfl rfl rfl rfl rfl rfl rfl ⟨rfl, rfl, rfl, rfl, rfl⟩ rfl rfl rfl rfl rfl (by kernel_rfl) Try.func3 (by kernel_rfl)
    (of_decide_eq_true (by kernel_rfl)) (by unfold Func.isWrapper; first | (rw [if_pos (by decide +kernel)]; kernel_rfl) | (rw [if_neg (by decide +kernel)]; exact ⟨rfl, rfl⟩))
    (fun os started H enc _ => lifted os started H enc)

theorem proved : Rows.TagPacksSaid := over
#print axioms proved
end Go.Proofs.Ytihnlklcdcigiaa.tagPacks
