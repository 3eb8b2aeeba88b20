/-
  Layer 12: package count's functions.
-/
import Derived.Test.YtgmbamehmecnlaaObjFn5
import Derived.Test.YtgmbamehmecnlaaCountLaw
namespace Go.Proofs.Ytgmbamehmecnlaa.Pk
open Go.RowKit
set_option linter.unusedVariables false
set_option linter.unusedSimpArgs false
set_option maxRecDepth 100000

section
variable {p : Pl} {c : Cf} {s : St} {pool : List Nat} {os : List Ob} {o : Ob} {r : Int} {w : World}
/-! ### Is, of an object and of none -/
theorem ob_is_yes (hG : G w p c s) (H : HeapAt c s.zs pool os) (ho : o ∈ os) : Calls Try.prog 40 #[.pointer (some ⟨p.a, 0, none⟩), .int .i64 ((o.h : Int) + 1)] w (GP w p c ⟨s.zs, s.m + 1⟩ (.bool true)) := by
  have hA := H.obs o ho
  have hm := hG.may
  have hW := hm.w
  have h := ob_is hG ((o.h : Int) + 1)
  rw [isB H hm (H.in64 hm ho), H.obAt ho, prev_ob hm hA.hlt, show wordA c (o.h : Int) 0 = some (adr c o.h 0) from adr_word hA.hlt (v := 0) (by omega)] at h
  exact h
theorem ob_is_no (hG : G w p c s) (H : HeapAt c s.zs pool os) (hr : In64 r) (ho : obAt os r = none) : Calls Try.prog 40 #[.pointer (some ⟨p.a, 0, none⟩), .int .i64 r] w (GP w p c ⟨s.zs, s.m + askN (wordA c (prev r) 0)⟩ (.bool false)) := by
  have h := ob_is hG r
  rw [isB H hG.may hr, ho, Nat.one_mul] at h
  exact h

/-! ### Of -/
theorem ct_of_no (hG : G w p c s) (H : HeapAt c s.zs pool os) (hr : In64 r) (ho : obAt os r = none) : Calls Try.prog 15 #[.pointer (some ⟨p.a, 0, none⟩), .int .i64 r] w (GP w p c ⟨s.zs, s.m + askN (wordA c (prev r) 0)⟩ (.int .i64 0)) := by
  have HI := Lib.hid (ob_is_no hG H hr ho)
  have HG := Lib.hid hG
  clear hG H hr ho
  go_enter Try.func15, Try.ntmps15
  have HT0 : Hid (Touch (inG p) w w) := Lib.hid (Touch.refl _ _)
  go_wp2_with fail
  refine (HI.out).mono ?_
  rintro e wm1 ⟨rfl, hG, hT⟩
  have HG1 := Lib.hid hG
  have HT1 : Hid (Touch (inG p) _ wm1) := Lib.hid (HT0.out.trans hT)
  clear hG hT
  go_wp2_with fail
  go_ret
  exact ⟨rfl, HG1.out, HT1.out⟩
theorem ct_of_yes (hG : G w p c s) (H : HeapAt c s.zs pool os) (ho : o ∈ os) : Calls Try.prog 15 #[.pointer (some ⟨p.a, 0, none⟩), .int .i64 ((o.h : Int) + 1)] w (GP w p c ⟨s.zs, s.m + 2⟩ (.int .i64 (nth s.zs (adr c o.h 3)))) := by
  have HI := Lib.hid (ob_is_yes hG H ho)
  have HG := Lib.hid hG
  have hA := H.obs o ho
  have hW := hG.may.w
  have HB := Lib.hid hA.hlt
  have HV : Hid (3 < c.W) := Lib.hid (by omega)
  have hwf := hG.wz.wf (adr c o.h 3)
  have e1 := w64_ob hG.may hA.hlt
  have HY : Hid (nth s.zs (adr c o.h 3) = nth s.zs (adr c o.h 3)) := Lib.hid rfl
  generalize hy : nth s.zs (adr c o.h 3) = y at *
  have HY2 := Lib.hid hy
  have hwr : IntKind.i64.wrap y = y := IntWalk.i64_in _ (by omega)
  clear hG H ho hA hW HY hy hwf
  go_enter Try.func15, Try.ntmps15
  have HT0 : Hid (Touch (inG p) w w) := Lib.hid (Touch.refl _ _)
  go_wp2_with fail
  refine (HI.out).mono ?_
  rintro e wm1 ⟨rfl, hG, hT⟩
  have HG1 := Lib.hid hG
  have HT1 : Hid (Touch (inG p) _ wm1) := Lib.hid (HT0.out.trans hT)
  clear hG hT
  go_wp2_with fail
  refine (wordW p c _ o.h 3 _ _ y _ HG1.out HB.out HV.out rfl rfl HY2.out).mono ?_
  rintro e wm2 ⟨rfl, hG, hT⟩
  have HG2 := Lib.hid hG
  have HT2 : Hid (Touch (inG p) _ wm2) := Lib.hid (HT1.out.trans hT)
  clear hG hT
  go_wp2_with fail
  go_ret
  exact ⟨rfl, HG2.out, HT2.out⟩

/-! ### change, Up, Down -/
theorem ct_change_no (b : Int) (hG : G w p c s) (H : HeapAt c s.zs pool os) (hr : In64 r) (ho : obAt os r = none) : Calls Try.prog 54 #[.pointer (some ⟨p.a, 0, none⟩), .int .i64 r, .int .i64 b] w (GP w p c ⟨s.zs, s.m + askN (wordA c (prev r) 0)⟩ (.tuple #[.int .i64 0, .bool false])) := by
  have HI := Lib.hid (ob_is_no hG H hr ho)
  have HG := Lib.hid hG
  clear hG H hr ho
  go_enter Try.func54, Try.ntmps54
  have HT0 : Hid (Touch (inG p) w w) := Lib.hid (Touch.refl _ _)
  go_wp2_with fail
  refine (HI.out).mono ?_
  rintro e wm1 ⟨rfl, hG, hT⟩
  have HG1 := Lib.hid hG
  have HT1 : Hid (Touch (inG p) _ wm1) := Lib.hid (HT0.out.trans hT)
  clear hG hT
  go_wp2_with fail
  go_ret2
  exact ⟨rfl, HG1.out, HT1.out⟩
theorem ct_change_out (b : Int) (hG : G w p c s) (H : HeapAt c s.zs pool os) (ho : o ∈ os) (hb0 : -1 ≤ b) (hb1 : b ≤ 1) (hn : nth s.zs (adr c o.h 3) + b < 0 ∨ 4294967295 < nth s.zs (adr c o.h 3) + b) : Calls Try.prog 54 #[.pointer (some ⟨p.a, 0, none⟩), .int .i64 ((o.h : Int) + 1), .int .i64 b] w (GP w p c ⟨s.zs, s.m + 2⟩ (.tuple #[.int .i64 0, .bool false])) := by
  have HI := Lib.hid (ob_is_yes hG H ho)
  have HG := Lib.hid hG
  have hA := H.obs o ho
  have hW := hG.may.w
  have HB := Lib.hid hA.hlt
  have HV : Hid (3 < c.W) := Lib.hid (by omega)
  have hwf := hG.wz.wf (adr c o.h 3)
  have e1 := w64_ob hG.may hA.hlt
  generalize hy : nth s.zs (adr c o.h 3) = y at *
  have HY2 := Lib.hid hy
  have hwr : IntKind.i64.wrap y = y := IntWalk.i64_in _ (by omega)
  have hwr2 : IntKind.i64.wrap (y + b) = y + b := IntWalk.i64_in _ (by omega)
  clear hG H ho hA hW hy
  by_cases h0 : y + b < 0
  · clear hwf hn hb0 hb1
    go_enter Try.func54, Try.ntmps54
    have HT0 : Hid (Touch (inG p) w w) := Lib.hid (Touch.refl _ _)
    go_wp2_with fail
    refine (HI.out).mono ?_
    rintro e wm1 ⟨rfl, hG, hT⟩
    have HG1 := Lib.hid hG
    have HT1 : Hid (Touch (inG p) _ wm1) := Lib.hid (HT0.out.trans hT)
    clear hG hT
    go_wp2_with fail
    refine (wordW p c _ o.h 3 _ _ y _ HG1.out HB.out HV.out rfl rfl HY2.out).mono ?_
    rintro e wm2 ⟨rfl, hG, hT⟩
    have HG2 := Lib.hid hG
    have HT2 : Hid (Touch (inG p) _ wm2) := Lib.hid (HT1.out.trans hT)
    clear hG hT
    go_wp2_with fail
    go_ret2
    exact ⟨rfl, HG2.out, HT2.out⟩
  · have h1 : 4294967295 < y + b := by omega
    clear hwf hn hb0 hb1
    go_enter Try.func54, Try.ntmps54
    have HT0 : Hid (Touch (inG p) w w) := Lib.hid (Touch.refl _ _)
    go_wp2_with fail
    refine (HI.out).mono ?_
    rintro e wm1 ⟨rfl, hG, hT⟩
    have HG1 := Lib.hid hG
    have HT1 : Hid (Touch (inG p) _ wm1) := Lib.hid (HT0.out.trans hT)
    clear hG hT
    go_wp2_with fail
    refine (wordW p c _ o.h 3 _ _ y _ HG1.out HB.out HV.out rfl rfl HY2.out).mono ?_
    rintro e wm2 ⟨rfl, hG, hT⟩
    have HG2 := Lib.hid hG
    have HT2 : Hid (Touch (inG p) _ wm2) := Lib.hid (HT1.out.trans hT)
    clear hG hT
    go_wp2_with fail
    go_ret2
    exact ⟨rfl, HG2.out, HT2.out⟩
theorem ct_change_yes (b n : Int) (hG : G w p c s) (H : HeapAt c s.zs pool os) (ho : o ∈ os) (hb0 : -1 ≤ b) (hb1 : b ≤ 1) (hn : nth s.zs (adr c o.h 3) + b = n) (hn0 : 0 ≤ n) (hn1 : n ≤ 4294967295) : Calls Try.prog 54 #[.pointer (some ⟨p.a, 0, none⟩), .int .i64 ((o.h : Int) + 1), .int .i64 b] w (GP w p c ⟨s.zs.set (adr c o.h 3) n, s.m + 3⟩ (.tuple #[.int .i64 n, .bool true])) := by
  have HI := Lib.hid (ob_is_yes hG H ho)
  have HG := Lib.hid hG
  have hA := H.obs o ho
  have hW := hG.may.w
  have HB := Lib.hid hA.hlt
  have HV : Hid (3 < c.W) := Lib.hid (by omega)
  have hwf := hG.wz.wf (adr c o.h 3)
  have e1 := w64_ob hG.may hA.hlt
  generalize hy : nth s.zs (adr c o.h 3) = y at *
  have HY2 := Lib.hid hy
  have hwr : IntKind.i64.wrap y = y := IntWalk.i64_in _ (by omega)
  have hwr2 : IntKind.i64.wrap (y + b) = n := by rw [hn]; exact IntWalk.i64_in _ (by omega)
  have hwr3 : IntKind.u32.wrap n = n := by rw [IntKind.wrap_u32]; omega
  have HN0 := Lib.hid hn0
  have HN1 := Lib.hid hn1
  have g0 : ¬ n < 0 := by omega
  have g1 : ¬ 4294967295 < n := by omega
  clear hG H ho hA hW hy hwf hn hn0 hn1 hb0 hb1
  go_enter Try.func54, Try.ntmps54
  have HT0 : Hid (Touch (inG p) w w) := Lib.hid (Touch.refl _ _)
  go_wp2_with fail
  refine (HI.out).mono ?_
  rintro e wm1 ⟨rfl, hG, hT⟩
  have HG1 := Lib.hid hG
  have HT1 : Hid (Touch (inG p) _ wm1) := Lib.hid (HT0.out.trans hT)
  clear hG hT
  go_wp2_with fail
  refine (wordW p c _ o.h 3 _ _ y _ HG1.out HB.out HV.out rfl rfl HY2.out).mono ?_
  rintro e wm2 ⟨rfl, hG, hT⟩
  have HG2 := Lib.hid hG
  have HT2 : Hid (Touch (inG p) _ wm2) := Lib.hid (HT1.out.trans hT)
  clear hG hT
  go_wp2_with fail
  refine (setwordW p c _ o.h 3 _ _ n _ HG2.out HB.out HV.out rfl rfl HN0.out HN1.out).mono ?_
  rintro e wm3 ⟨rfl, hG, hT⟩
  have HG3 := Lib.hid hG
  have HT3 : Hid (Touch (inG p) _ wm3) := Lib.hid (HT2.out.trans hT)
  clear hG hT
  go_wp2_with fail
  go_ret2
  exact ⟨rfl, HG3.out, HT3.out⟩
theorem ct_up {s' : St} {v : Value} (h : Calls Try.prog 54 #[.pointer (some ⟨p.a, 0, none⟩), .int .i64 r, .int .i64 1] w (GP w p c s' v)) (hv : ∃ a b, v = .tuple #[a, b]) : Calls Try.prog 13 #[.pointer (some ⟨p.a, 0, none⟩), .int .i64 r] w (GP w p c s' v) := by
  obtain ⟨a, b, rfl⟩ := hv
  have H := Lib.hid h
  clear h
  go_enter Try.func13, Try.ntmps13
  go_wp2_with fail
  refine H.out.mono ?_
  rintro e w1 ⟨rfl, hG, hT⟩
  have HG1 := Lib.hid hG
  have HT1 := Lib.hid hT
  clear hG hT
  go_wp2_with fail
  go_ret2
  exact ⟨rfl, HG1.out, HT1.out⟩
theorem ct_down {s' : St} {v : Value} (h : Calls Try.prog 54 #[.pointer (some ⟨p.a, 0, none⟩), .int .i64 r, .int .i64 (-1)] w (GP w p c s' v)) (hv : ∃ a b, v = .tuple #[a, b]) : Calls Try.prog 14 #[.pointer (some ⟨p.a, 0, none⟩), .int .i64 r] w (GP w p c s' v) := by
  obtain ⟨a, b, rfl⟩ := hv
  have H := Lib.hid h
  clear h
  go_enter Try.func14, Try.ntmps14
  go_wp2_with fail
  refine H.out.mono ?_
  rintro e w1 ⟨rfl, hG, hT⟩
  have HG1 := Lib.hid hG
  have HT1 := Lib.hid hT
  clear hG hT
  go_wp2_with fail
  go_ret2
  exact ⟨rfl, HG1.out, HT1.out⟩

/-! ### See -/
theorem ct_see_no (hG : G w p c s) (H : HeapAt c s.zs pool os) (hr : In64 r) (ho : obAt os r = none) : Calls Try.prog 18 #[.pointer (some ⟨p.a, 0, none⟩), .int .i64 r] w fun e w' => e = .returned (.int .i64 0) ∧ Below w.heap.size w w' := by
  have HS := Lib.hid (ob_see_no hG H hr ho)
  clear hG H hr ho
  go_enter Try.func18, Try.ntmps18
  go_wp2_with fail
  refine HS.out.mono ?_
  rintro e w1 ⟨rfl, hb⟩
  have HB := Lib.hid hb
  clear hb
  go_wp2_with fail
  go_ret
  exact ⟨rfl, HB.out.alloc HB.out.size _⟩
theorem ct_see_yes (hG : G w p c s) (H : HeapAt c s.zs pool os) (ho : o ∈ os) : Calls Try.prog 18 #[.pointer (some ⟨p.a, 0, none⟩), .int .i64 ((o.h : Int) + 1)] w fun e w' => e = .returned (.int .i64 (nth s.zs (adr c o.h 3))) ∧ Below w.heap.size w w' := by
  have HS := Lib.hid (ob_see_yes hG H ho)
  have HG := Lib.hid hG
  have hA := H.obs o ho
  have hW := hG.may.w
  have HB := Lib.hid hA.hlt
  have HV : Hid (3 < c.W) := Lib.hid (by omega)
  have hwf := hG.wz.wf (adr c o.h 3)
  have e1 := w64_ob hG.may hA.hlt
  generalize hy : nth s.zs (adr c o.h 3) = y at *
  have HY2 := Lib.hid hy
  have hwr : IntKind.i64.wrap y = y := IntWalk.i64_in _ (by omega)
  clear hG H ho hA hW hy hwf
  go_enter Try.func18, Try.ntmps18
  go_wp2_with fail
  refine HS.out.mono ?_
  rintro e w1 ⟨a1, c1, a2, c2, rfl, _, _, _, _, _, hb, _, _⟩
  have HB1 := Lib.hid (hb.alloc hb.size (.cells #[.slice a1 o.np c1, .slice a2 o.nd c2] 37))
  have HG1 := Lib.hid ((HG.out.later hb).alloc (.cells #[.slice a1 o.np c1, .slice a2 o.nd c2] 37))
  clear hb
  go_wp2_with fail
  refine (seewordB p c s o.h 3 _ _ y _ HG1.out HB.out HV.out rfl rfl HY2.out).mono ?_
  rintro e w2 ⟨rfl, hb⟩
  have HB2 := Lib.hid (below_step HB1.out hb)
  clear hb
  go_wp2_with fail
  go_ret
  exact ⟨rfl, HB2.out⟩
end
theorem countFns : CountFns where
  of_yes := fun c zs pool os o hz H ho => ⟨2, by omega, fun p m w hG => ct_of_yes hG H ho⟩
  of_no := fun c zs pool os r hz H hr ho => ⟨askN (wordA c (prev r) 0), by have := askN_le (wordA c (prev r) 0); omega, fun p m w hG => ct_of_no hG H hr ho⟩
  up_yes := fun c zs pool os o hz H ho hk => ⟨3, by omega, fun p m w hG => ct_up (ct_change_yes 1 _ hG H ho (by omega) (by omega) rfl (by have := (hz.wf (adr c o.h 3)).1; show 0 ≤ nth zs _ + 1; omega) (by show nth zs _ + 1 ≤ _; omega)) ⟨_, _, rfl⟩⟩
  up_max := fun c zs pool os o hz H ho hk => ⟨2, by omega, fun p m w hG => ct_up (ct_change_out 1 hG H ho (by omega) (by omega) (.inr (by show _ < nth zs _ + 1; omega))) ⟨_, _, rfl⟩⟩
  up_no := fun c zs pool os r hz H hr ho => ⟨askN (wordA c (prev r) 0), by have := askN_le (wordA c (prev r) 0); omega, fun p m w hG => ct_up (ct_change_no 1 hG H hr ho) ⟨_, _, rfl⟩⟩
  down_yes := fun c zs pool os o hz H ho hk => ⟨3, by omega, fun p m w hG => by
    have hwf := hz.wf (adr c o.h 3)
    exact ct_down (ct_change_yes (-1) _ hG H ho (by omega) (by omega) (by show nth zs _ + (-1) = nth zs _ - 1; omega) (by omega) (by omega)) ⟨_, _, rfl⟩⟩
  down_zero := fun c zs pool os o hz H ho hk => ⟨2, by omega, fun p m w hG => ct_down (ct_change_out (-1) hG H ho (by omega) (by omega) (.inl (by show nth zs _ + (-1) < 0; omega))) ⟨_, _, rfl⟩⟩
  down_no := fun c zs pool os r hz H hr ho => ⟨askN (wordA c (prev r) 0), by have := askN_le (wordA c (prev r) 0); omega, fun p m w hG => ct_down (ct_change_no (-1) hG H hr ho) ⟨_, _, rfl⟩⟩
  see_yes := fun c zs pool os o hz H ho p m w hG => ct_see_yes hG H ho
  see_no := fun c zs pool os r hz H hr ho p m w hG => ct_see_no hG H hr ho

/-! ### Of a nil ground -/
end Go.Proofs.Ytgmbamehmecnlaa.Pk
