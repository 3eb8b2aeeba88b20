/- What is packed is unpacked as it was; a word is a right tag's just if packing what it unpacks to makes it again; for every tag and word. -/
import Derived.Test.YtihnlklcdcigiaaRows
import Derived.Test.YtihnlklcdcigiaaAgg
import Derived.Test.YtihnlklcdcigiaaTagName
import Derived.Deep.RegionHeld3
import Derived.WalkKit
import Derived.ProofKit
import Derived.OpenShut
import Derived.ChangeOld
import Derived.Carry
import Derived.Lib.SmallJoins
import Derived.ChangeMaps5
namespace Go.Proofs.Ytihnlklcdcigiaa.tagBack
open Go.ChangeShapes Go.WideShapes Go.ChangeAt Go.RowKit Go.Joins
open Go.Proofs.Ytihnlklcdcigiaa.Pk
set_option linter.unusedVariables false
set_option linter.unusedSimpArgs false

theorem own : ownKnob Try.prog.godebug = none := by kernel_rfl
theorem laidOut : laidOutB Try.prog = true := by kernel_rfl

theorem tunpack_pack (k c n s d g o : Int) (w : World) (hR : RightT k c n s d g o) :
    Calls Try.prog 12 #[.int .u32 (packI k c n s d g o)] w fun e w' => e = .returned (.agg #[.int .i64 k, .int .i64 c, .int .i64 n, .int .i64 s, .int .i64 d, .int .i64 g, .int .i64 o]) ∧ Below w.heap.size w w' := by
  have hb := packI_bd hR
  obtain ⟨e0, e1, e2, e3, e4, e5, e6⟩ := unpack_pack hR
  have h := tunpack_any (packI k c n s d g o) w hb.1 hb.2
  rw [e0, e1, e2, e3, e4, e5, e6] at h
  exact h

set_option maxHeartbeats 1000000 in
theorem walk_11 (k c n s d g o x : Int) (w : World) (h0 : 0 ≤ x) (h1 : x ≤ 4294967295) (hr : rightB k c n s d g o = true) (hu : rightB (uK x) (uC x) (uN x) (uS x) (uD x) (uG x) (uO x) = true) :
    Calls Try.prog 6 #[.agg #[.int .i64 k, .int .i64 c, .int .i64 n, .int .i64 s, .int .i64 d, .int .i64 g, .int .i64 o], .int .u32 x] w fun e w' => e = .returned (.bool true) ∧ Below w.heap.size w w' := by
  have H0 := Lib.hid h0
  have H1 := Lib.hid h1
  have hR := Lib.hid (rightB_yes hr)
  have ep := Lib.hid (packV_yes hr)
  have ee := Lib.hid (packE_yes hr)
  have up := Lib.hid ((packV_yes hu).trans ((pack_unpack x).trans (not_128 h0 h1).symm))
  have ue := Lib.hid (packE_yes hu)
  have hE : ∀ b, rightB (uK x) (uC x) (uN x) (uS x) (uD x) (uG x) (uO x) = b → rightB (uK x) (uC x) (uN x) (uS x) (uD x) (uG x) (uO x) = b := fun _ h => h
  clear h0 h1 hr hE
  have HU := Lib.hid hu
  clear hu
  go_enter Try.func6, Try.ntmps6
  go_wp2_with fail
  refine (tpack_any _ _ _ _ _ _ _ _).mono ?_
  rw [ep.out, ee.out]
  rintro e w1 ⟨rfl, hb⟩
  have hBk := (Blk.new w #[.int .i64 k, .int .i64 c, .int .i64 n, .int .i64 s, .int .i64 d, .int .i64 g, .int .i64 o] 23).later hb
  have c0 := hBk.cell 0 rfl
  have c1 := hBk.cell 1 rfl
  have c2 := hBk.cell 2 rfl
  have c3 := hBk.cell 3 rfl
  have c4 := hBk.cell 4 rfl
  have c5 := hBk.cell 5 rfl
  have c6 := hBk.cell 6 rfl
  have HB1 := Lib.hid (below_step (below_new w _) hb)
  have HBk := Lib.hid hBk
  clear hb hBk
  go_wp2_with fail
  go_region_held3 (fun w' => w'.cell? ⟨w.heap.size, 0, none⟩ = some (.int .i64 k) ∧ w'.cell? ⟨w.heap.size, 1, none⟩ = some (.int .i64 c) ∧ w'.cell? ⟨w.heap.size, 2, none⟩ = some (.int .i64 n) ∧ w'.cell? ⟨w.heap.size, 3, none⟩ = some (.int .i64 s) ∧ w'.cell? ⟨w.heap.size, 4, none⟩ = some (.int .i64 d) ∧ w'.cell? ⟨w.heap.size, 5, none⟩ = some (.int .i64 g) ∧ w'.cell? ⟨w.heap.size, 6, none⟩ = some (.int .i64 o)) (first | exact ⟨d0, d1, d2, d3, d4, d5, d6⟩ | exact ⟨c0, c1, c2, c3, c4, c5, c6⟩)
    (first | (go_at_call 12; refine (tunpack_pack _ _ _ _ _ _ _ _ hR.out).mono ?_; rintro e w2 ⟨rfl, hb⟩; have hBk := HBk.out.drew.later hb; have d0 := hBk.cell 0 rfl; have d1 := hBk.cell 1 rfl; have d2 := hBk.cell 2 rfl; have d3 := hBk.cell 3 rfl; have d4 := hBk.cell 4 rfl; have d5 := hBk.cell 5 rfl; have d6 := hBk.cell 6 rfl; clear hBk; have HB2 := Lib.hid (below_step HB1.out (below_undrew' hb)); clear hb))
  have HB2 := HB2
  go_wp2_with fail
  refine (tunpack_any _ _ H0.out H1.out).mono ?_
  rintro e w3 ⟨rfl, hb⟩
  have HB3 := Lib.hid (below_step HB2.out hb)
  clear hb
  go_wp2_with fail
  refine (tpack_any _ _ _ _ _ _ _ _).mono ?_
  rw [up.out, ue.out]
  rintro e w4 ⟨rfl, hb⟩
  have hBk := (Blk.new w3 #[.int .i64 (uK x), .int .i64 (uC x), .int .i64 (uN x), .int .i64 (uS x), .int .i64 (uD x), .int .i64 (uG x), .int .i64 (uO x)] 23).later hb
  have e0 := hBk.cell 0 rfl
  have e1 := hBk.cell 1 rfl
  have e2 := hBk.cell 2 rfl
  have e3 := hBk.cell 3 rfl
  have e4 := hBk.cell 4 rfl
  have e5 := hBk.cell 5 rfl
  have e6 := hBk.cell 6 rfl
  have HB4 := Lib.hid (below_step (HB3.out.alloc HB3.out.size _) hb)
  clear hb hBk
  go_wp2_with fail
  refine (tright_any _ _ _ _ _ _ _ _).mono ?_
  rw [HU.out]
  rintro e w5 ⟨rfl, hb⟩
  have HB5 := Lib.hid (below_step HB4.out hb)
  clear hb
  go_wp2_with fail
  refine (begun6_any _).mono ?_
  rintro e w6 ⟨rfl, hb⟩
  have HB6 := Lib.hid (below_step HB5.out hb)
  clear hb
  go_wp2_with fail
  go_ret
  exact ⟨rfl, HB6.out⟩

set_option maxHeartbeats 1000000 in
theorem walk_10 (k c n s d g o x : Int) (w : World) (h0 : 0 ≤ x) (h1 : x ≤ 4294967295) (hr : rightB k c n s d g o = true) (hu : rightB (uK x) (uC x) (uN x) (uS x) (uD x) (uG x) (uO x) = false) :
    Calls Try.prog 6 #[.agg #[.int .i64 k, .int .i64 c, .int .i64 n, .int .i64 s, .int .i64 d, .int .i64 g, .int .i64 o], .int .u32 x] w fun e w' => e = .returned (.bool true) ∧ Below w.heap.size w w' := by
  have H0 := Lib.hid h0
  have H1 := Lib.hid h1
  have hR := Lib.hid (rightB_yes hr)
  have ep := Lib.hid (packV_yes hr)
  have ee := Lib.hid (packE_yes hr)
  have ue := Lib.hid (packE_no hu)
  have hE : ∀ b, rightB (uK x) (uC x) (uN x) (uS x) (uD x) (uG x) (uO x) = b → rightB (uK x) (uC x) (uN x) (uS x) (uD x) (uG x) (uO x) = b := fun _ h => h
  clear h0 h1 hr hE
  have HU := Lib.hid hu
  clear hu
  go_enter Try.func6, Try.ntmps6
  go_wp2_with fail
  refine (tpack_any _ _ _ _ _ _ _ _).mono ?_
  rw [ep.out, ee.out]
  rintro e w1 ⟨rfl, hb⟩
  have hBk := (Blk.new w #[.int .i64 k, .int .i64 c, .int .i64 n, .int .i64 s, .int .i64 d, .int .i64 g, .int .i64 o] 23).later hb
  have c0 := hBk.cell 0 rfl
  have c1 := hBk.cell 1 rfl
  have c2 := hBk.cell 2 rfl
  have c3 := hBk.cell 3 rfl
  have c4 := hBk.cell 4 rfl
  have c5 := hBk.cell 5 rfl
  have c6 := hBk.cell 6 rfl
  have HB1 := Lib.hid (below_step (below_new w _) hb)
  have HBk := Lib.hid hBk
  clear hb hBk
  go_wp2_with fail
  go_region_held3 (fun w' => w'.cell? ⟨w.heap.size, 0, none⟩ = some (.int .i64 k) ∧ w'.cell? ⟨w.heap.size, 1, none⟩ = some (.int .i64 c) ∧ w'.cell? ⟨w.heap.size, 2, none⟩ = some (.int .i64 n) ∧ w'.cell? ⟨w.heap.size, 3, none⟩ = some (.int .i64 s) ∧ w'.cell? ⟨w.heap.size, 4, none⟩ = some (.int .i64 d) ∧ w'.cell? ⟨w.heap.size, 5, none⟩ = some (.int .i64 g) ∧ w'.cell? ⟨w.heap.size, 6, none⟩ = some (.int .i64 o)) (first | exact ⟨d0, d1, d2, d3, d4, d5, d6⟩ | exact ⟨c0, c1, c2, c3, c4, c5, c6⟩)
    (first | (go_at_call 12; refine (tunpack_pack _ _ _ _ _ _ _ _ hR.out).mono ?_; rintro e w2 ⟨rfl, hb⟩; have hBk := HBk.out.drew.later hb; have d0 := hBk.cell 0 rfl; have d1 := hBk.cell 1 rfl; have d2 := hBk.cell 2 rfl; have d3 := hBk.cell 3 rfl; have d4 := hBk.cell 4 rfl; have d5 := hBk.cell 5 rfl; have d6 := hBk.cell 6 rfl; clear hBk; have HB2 := Lib.hid (below_step HB1.out (below_undrew' hb)); clear hb))
  have HB2 := HB2
  go_wp2_with fail
  refine (tunpack_any _ _ H0.out H1.out).mono ?_
  rintro e w3 ⟨rfl, hb⟩
  have HB3 := Lib.hid (below_step HB2.out hb)
  clear hb
  go_wp2_with fail
  refine (tpack_any _ _ _ _ _ _ _ _).mono ?_
  rw [ue.out]
  rintro e w4 ⟨rfl, hb⟩
  have hBk := (Blk.new w3 #[.int .i64 (uK x), .int .i64 (uC x), .int .i64 (uN x), .int .i64 (uS x), .int .i64 (uD x), .int .i64 (uG x), .int .i64 (uO x)] 23).later hb
  have e0 := hBk.cell 0 rfl
  have e1 := hBk.cell 1 rfl
  have e2 := hBk.cell 2 rfl
  have e3 := hBk.cell 3 rfl
  have e4 := hBk.cell 4 rfl
  have e5 := hBk.cell 5 rfl
  have e6 := hBk.cell 6 rfl
  have HB4 := Lib.hid (below_step (HB3.out.alloc HB3.out.size _) hb)
  clear hb hBk
  go_wp2_with fail
  refine (tright_any _ _ _ _ _ _ _ _).mono ?_
  rw [HU.out]
  rintro e w5 ⟨rfl, hb⟩
  have HB5 := Lib.hid (below_step HB4.out hb)
  clear hb
  go_wp2_with fail
  refine (begun6_any _).mono ?_
  rintro e w6 ⟨rfl, hb⟩
  have HB6 := Lib.hid (below_step HB5.out hb)
  clear hb
  go_wp2_with fail
  go_ret
  exact ⟨rfl, HB6.out⟩

set_option maxHeartbeats 1000000 in
theorem walk_01 (k c n s d g o x : Int) (w : World) (h0 : 0 ≤ x) (h1 : x ≤ 4294967295) (hr : rightB k c n s d g o = false) (hu : rightB (uK x) (uC x) (uN x) (uS x) (uD x) (uG x) (uO x) = true) :
    Calls Try.prog 6 #[.agg #[.int .i64 k, .int .i64 c, .int .i64 n, .int .i64 s, .int .i64 d, .int .i64 g, .int .i64 o], .int .u32 x] w fun e w' => e = .returned (.bool true) ∧ Below w.heap.size w w' := by
  have H0 := Lib.hid h0
  have H1 := Lib.hid h1
  have ep := Lib.hid (packV_no hr)
  have ee := Lib.hid (packE_no hr)
  have up := Lib.hid ((packV_yes hu).trans ((pack_unpack x).trans (not_128 h0 h1).symm))
  have ue := Lib.hid (packE_yes hu)
  have hE : ∀ b, rightB (uK x) (uC x) (uN x) (uS x) (uD x) (uG x) (uO x) = b → rightB (uK x) (uC x) (uN x) (uS x) (uD x) (uG x) (uO x) = b := fun _ h => h
  clear h0 h1 hr hE
  have HU := Lib.hid hu
  clear hu
  go_enter Try.func6, Try.ntmps6
  go_wp2_with fail
  refine (tpack_any _ _ _ _ _ _ _ _).mono ?_
  rw [ep.out, ee.out]
  rintro e w1 ⟨rfl, hb⟩
  have hBk := (Blk.new w #[.int .i64 k, .int .i64 c, .int .i64 n, .int .i64 s, .int .i64 d, .int .i64 g, .int .i64 o] 23).later hb
  have c0 := hBk.cell 0 rfl
  have c1 := hBk.cell 1 rfl
  have c2 := hBk.cell 2 rfl
  have c3 := hBk.cell 3 rfl
  have c4 := hBk.cell 4 rfl
  have c5 := hBk.cell 5 rfl
  have c6 := hBk.cell 6 rfl
  have HB1 := Lib.hid (below_step (below_new w _) hb)
  have HBk := Lib.hid hBk
  clear hb hBk
  go_wp2_with fail
  go_quiet (fail)
  go_wp2_with fail
  refine (tunpack_any _ _ H0.out H1.out).mono ?_
  rintro e w3 ⟨rfl, hb⟩
  have HB3 := Lib.hid (below_step (below_step HB1.out (Drw.new ⟨_, rfl⟩)) hb)
  clear hb
  go_wp2_with fail
  refine (tpack_any _ _ _ _ _ _ _ _).mono ?_
  rw [up.out, ue.out]
  rintro e w4 ⟨rfl, hb⟩
  have hBk := (Blk.new w3 #[.int .i64 (uK x), .int .i64 (uC x), .int .i64 (uN x), .int .i64 (uS x), .int .i64 (uD x), .int .i64 (uG x), .int .i64 (uO x)] 23).later hb
  have e0 := hBk.cell 0 rfl
  have e1 := hBk.cell 1 rfl
  have e2 := hBk.cell 2 rfl
  have e3 := hBk.cell 3 rfl
  have e4 := hBk.cell 4 rfl
  have e5 := hBk.cell 5 rfl
  have e6 := hBk.cell 6 rfl
  have HB4 := Lib.hid (below_step (HB3.out.alloc HB3.out.size _) hb)
  clear hb hBk
  go_wp2_with fail
  refine (tright_any _ _ _ _ _ _ _ _).mono ?_
  rw [HU.out]
  rintro e w5 ⟨rfl, hb⟩
  have HB5 := Lib.hid (below_step HB4.out hb)
  clear hb
  go_wp2_with fail
  refine (begun6_any _).mono ?_
  rintro e w6 ⟨rfl, hb⟩
  have HB6 := Lib.hid (below_step HB5.out hb)
  clear hb
  go_wp2_with fail
  go_ret
  exact ⟨rfl, HB6.out⟩

set_option maxHeartbeats 1000000 in
theorem walk_00 (k c n s d g o x : Int) (w : World) (h0 : 0 ≤ x) (h1 : x ≤ 4294967295) (hr : rightB k c n s d g o = false) (hu : rightB (uK x) (uC x) (uN x) (uS x) (uD x) (uG x) (uO x) = false) :
    Calls Try.prog 6 #[.agg #[.int .i64 k, .int .i64 c, .int .i64 n, .int .i64 s, .int .i64 d, .int .i64 g, .int .i64 o], .int .u32 x] w fun e w' => e = .returned (.bool true) ∧ Below w.heap.size w w' := by
  have H0 := Lib.hid h0
  have H1 := Lib.hid h1
  have ep := Lib.hid (packV_no hr)
  have ee := Lib.hid (packE_no hr)
  have ue := Lib.hid (packE_no hu)
  have hE : ∀ b, rightB (uK x) (uC x) (uN x) (uS x) (uD x) (uG x) (uO x) = b → rightB (uK x) (uC x) (uN x) (uS x) (uD x) (uG x) (uO x) = b := fun _ h => h
  clear h0 h1 hr hE
  have HU := Lib.hid hu
  clear hu
  go_enter Try.func6, Try.ntmps6
  go_wp2_with fail
  refine (tpack_any _ _ _ _ _ _ _ _).mono ?_
  rw [ep.out, ee.out]
  rintro e w1 ⟨rfl, hb⟩
  have hBk := (Blk.new w #[.int .i64 k, .int .i64 c, .int .i64 n, .int .i64 s, .int .i64 d, .int .i64 g, .int .i64 o] 23).later hb
  have c0 := hBk.cell 0 rfl
  have c1 := hBk.cell 1 rfl
  have c2 := hBk.cell 2 rfl
  have c3 := hBk.cell 3 rfl
  have c4 := hBk.cell 4 rfl
  have c5 := hBk.cell 5 rfl
  have c6 := hBk.cell 6 rfl
  have HB1 := Lib.hid (below_step (below_new w _) hb)
  have HBk := Lib.hid hBk
  clear hb hBk
  go_wp2_with fail
  go_quiet (fail)
  go_wp2_with fail
  refine (tunpack_any _ _ H0.out H1.out).mono ?_
  rintro e w3 ⟨rfl, hb⟩
  have HB3 := Lib.hid (below_step (below_step HB1.out (Drw.new ⟨_, rfl⟩)) hb)
  clear hb
  go_wp2_with fail
  refine (tpack_any _ _ _ _ _ _ _ _).mono ?_
  rw [ue.out]
  rintro e w4 ⟨rfl, hb⟩
  have hBk := (Blk.new w3 #[.int .i64 (uK x), .int .i64 (uC x), .int .i64 (uN x), .int .i64 (uS x), .int .i64 (uD x), .int .i64 (uG x), .int .i64 (uO x)] 23).later hb
  have e0 := hBk.cell 0 rfl
  have e1 := hBk.cell 1 rfl
  have e2 := hBk.cell 2 rfl
  have e3 := hBk.cell 3 rfl
  have e4 := hBk.cell 4 rfl
  have e5 := hBk.cell 5 rfl
  have e6 := hBk.cell 6 rfl
  have HB4 := Lib.hid (below_step (HB3.out.alloc HB3.out.size _) hb)
  clear hb hBk
  go_wp2_with fail
  refine (tright_any _ _ _ _ _ _ _ _).mono ?_
  rw [HU.out]
  rintro e w5 ⟨rfl, hb⟩
  have HB5 := Lib.hid (below_step HB4.out hb)
  clear hb
  go_wp2_with fail
  refine (begun6_any _).mono ?_
  rintro e w6 ⟨rfl, hb⟩
  have HB6 := Lib.hid (below_step HB5.out hb)
  clear hb
  go_wp2_with fail
  go_ret
  exact ⟨rfl, HB6.out⟩

theorem walk (k c n s d g o x : Int) (w : World) (w0 : (Lit.int .i64 k).wf = true) (w1 : (Lit.int .i64 c).wf = true) (w2 : (Lit.int .i64 n).wf = true) (w3 : (Lit.int .i64 s).wf = true) (w4 : (Lit.int .i64 d).wf = true) (w5 : (Lit.int .i64 g).wf = true) (w6 : (Lit.int .i64 o).wf = true) (w7 : (Lit.int .u32 x).wf = true) :
    Calls Try.prog 6 #[.agg #[.int .i64 k, .int .i64 c, .int .i64 n, .int .i64 s, .int .i64 d, .int .i64 g, .int .i64 o], .int .u32 x] w fun e w' => e = .returned (.bool true) ∧ Below w.heap.size w w' := by
  obtain ⟨h0, h1⟩ := bounds_u32 w7
  cases hr : rightB k c n s d g o with
  | true =>
    cases hu : rightB (uK x) (uC x) (uN x) (uS x) (uD x) (uG x) (uO x) with
    | true => exact walk_11 k c n s d g o x w h0 h1 hr hu
    | false => exact walk_10 k c n s d g o x w h0 h1 hr hu
  | false =>
    cases hu : rightB (uK x) (uC x) (uN x) (uS x) (uD x) (uG x) (uO x) with
    | true => exact walk_01 k c n s d g o x w h0 h1 hr hu
    | false => exact walk_00 k c n s d g o x w h0 h1 hr hu

/-! ### The row -/
set_option maxRecDepth 100000 in
theorem lifted (os : Os) (started : os.Started) (H : Type) (enc : TypeId × Value → H) :
    ReturnsInHanded {} Try.checked os 6 .any (Rows.tagBackSpec.pre6 enc Try.prog Try.f6 Rows.tagBackRow.domain false) (Rows.tagBackSpec.post enc Try.prog Try.f6 false true false false) := by
  refine returnsInHanded_of_change (C := Try.checked) own started (by kernel_rfl) Try.func6
    (ChangeSpec.witness6 (enc := enc) (C := Try.checked) false ⟨#[], #[.agg #[.int .i64 0, .int .i64 0, .int .i64 0, .int .i64 0, .int .i64 0, .int .i64 0, .int .i64 0], .int .u32 0], []⟩ 8 (by kernel_rfl) (by kernel_rfl) (by kernel_rfl) (by kernel_rfl)) ?_
  intro W base args ds gs before hval0 hW hcnd _
  have hval : ∀ (j : Nat) t v, Try.f6.params[j]? = some t → args[j]? = some v → Value.okWide Try.prog W .any base t v := hval0
  have hW' := hW
  obtain ⟨p, q, hA0, hV, rfl, hfz, hnd⟩ := hW
  have hA : DataW.TrodAll enc Try.prog W 0 (fun _ => true) true Try.f6.params.toList args.toList ds p := hA0
  rw [Try.params6] at hA hval
  obtain ⟨v0, vs0, d0, ds0, p0, q0, hargs, rfl, rfl, h0, r0⟩ := trodAll_cons hA
  obtain ⟨v1, vs1, d1, ds1, p1, q1, rfl, rfl, rfl, h1, r1⟩ := trodAll_cons r0
  obtain ⟨rfl, rfl, rfl⟩ := trodAll_nil r1
  obtain rfl : args = #[v0, v1] := by cases args; simp_all
  obtain ⟨rfl, rfl⟩ := trodVars_none hV
  have k0 := h0
  have lt0 : ∀ x ∈ p0, x.block < W.heap.size := by obtain ⟨m, hm⟩ := k0; exact DataW.trod_lt m _ _ _ hm
  obtain ⟨rs0, hk0, rfl, hok0⟩ := open_flds Try.underlying23 (by kernel_rfl) (by kernel_rfl) [.int .i64, .int .i64, .int .i64, .int .i64, .int .i64, .int .i64, .int .i64] ⟨Try.underlying3, Try.underlying3, Try.underlying3, Try.underlying3, Try.underlying3, Try.underlying3, Try.underlying3, trivial⟩ (hval 0 23 v0 rfl rfl) h0
  obtain ⟨f00, rs0, rfl, g00, hk0⟩ := flds_cons hk0
  obtain ⟨f01, rs0, rfl, g01, hk0⟩ := flds_cons hk0
  obtain ⟨f02, rs0, rfl, g02, hk0⟩ := flds_cons hk0
  obtain ⟨f03, rs0, rfl, g03, hk0⟩ := flds_cons hk0
  obtain ⟨f04, rs0, rfl, g04, hk0⟩ := flds_cons hk0
  obtain ⟨f05, rs0, rfl, g05, hk0⟩ := flds_cons hk0
  obtain ⟨f06, rs0, rfl, g06, hk0⟩ := flds_cons hk0
  obtain rfl := flds_nil hk0
  obtain ⟨a00, rfl⟩ := fld_int g00
  obtain ⟨a01, rfl⟩ := fld_int g01
  obtain ⟨a02, rfl⟩ := fld_int g02
  obtain ⟨a03, rfl⟩ := fld_int g03
  obtain ⟨a04, rfl⟩ := fld_int g04
  obtain ⟨a05, rfl⟩ := fld_int g05
  obtain ⟨a06, rfl⟩ := fld_int g06
  have w00 : (Fld.int .i64 a00).ok W := hok0 _ (by simp)
  have w01 : (Fld.int .i64 a01).ok W := hok0 _ (by simp)
  have w02 : (Fld.int .i64 a02).ok W := hok0 _ (by simp)
  have w03 : (Fld.int .i64 a03).ok W := hok0 _ (by simp)
  have w04 : (Fld.int .i64 a04).ok W := hok0 _ (by simp)
  have w05 : (Fld.int .i64 a05).ok W := hok0 _ (by simp)
  have w06 : (Fld.int .i64 a06).ok W := hok0 _ (by simp)
  have k1 := h1
  have lt1 : ∀ x ∈ p1, x.block < W.heap.size := by obtain ⟨m, hm⟩ := k1; exact DataW.trod_lt m _ _ _ hm
  obtain ⟨a1, rfl, hd1, hp1, w1⟩ := open_int Try.underlying24 (hval 1 24 v1 rfl rfl) h1
  clear hA0 hval0
  refine (walk a00 a01 a02 a03 a04 a05 a06 a1 W w00 w01 w02 w03 w04 w05 w06 w1).mono fun e W' ⟨he, bel⟩ => ?_
  subst he
  exact ⟨_, rfl, _, _, _, [], _, [], hW', trodAll_mk1 (shut_bool Try.underlying4 _), (trodAll_cons_mk (Below.trod laidOut (by kernel_rfl) (of_decide_eq_true (by kernel_rfl)) k0 bel lt0) (trodAll_cons_mk (Below.trod laidOut (by kernel_rfl) (of_decide_eq_true (by kernel_rfl)) k1 bel lt1) trodAll_mk0)), rfl, bel.frame _, fun h => by cases h⟩

theorem over : Rows.tagBackRow.holds Try.pinned (OpenSpec.ofChange Rows.tagBackSpec) :=
  OpenClaim.holds_of_wide 6 Try.f6 rfl rfl rfl rfl rfl rfl rfl ⟨rfl, rfl, rfl, rfl, rfl⟩ rfl rfl rfl rfl rfl (by kernel_rfl) Try.func6 (by kernel_rfl)
    (of_decide_eq_true (by kernel_rfl)) (by unfold Func.isWrapper; first | (rw [if_pos (by decide +kernel)]; kernel_rfl) | (rw [if_neg (by decide +kernel)]; exact ⟨rfl, rfl⟩))
    (fun os started H enc _ => lifted os started H enc)

theorem proved : Rows.TagBackSaid := over
#print axioms proved
end Go.Proofs.Ytihnlklcdcigiaa.tagBack
