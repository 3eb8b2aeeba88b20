/-
  Texts laid together: TintFn4, TintFns, TintNil.
-/
import Derived.Test.YtmcgplblbdjaiaaGreatTintFnEtc
import Derived.Test.YtmcgplblbdjaiaaGreatRefMkEtc
/-
  What the functions of package tint return: Touch, and shadows.
-/
namespace Go.Proofs.YtmcgplblbdjaiaaGreat.Pk
open Go.RowKit
set_option linter.unusedVariables false
set_option linter.unusedSimpArgs false
set_option maxRecDepth 100000

section
variable {p : Pl} {c : Cf} {s : St} {pool : List Nat} {os : List Ob} {o : Ob} {r : Int} {w : World}
/-! ### Touch -/
theorem tt_Touch_idle (hG : G w p c s) (hph : nth s.zs 11 = 0) : Calls Tryz.prog 22 #[.pointer (some ⟨p.a, 0, none⟩), .int .i64 r] w (GP w p c ⟨s.zs, s.m + 1⟩ (.bool false)) := by
  have HG := Lib.hid hG
  have HF := Lib.hid hph
  clear hG hph
  go_enter Tryz.func22, Tryz.ntmps22
  have HT0 : Hid (Touch (inG p) w w) := Lib.hid (Touch.refl _ _)
  go_wp2_with fail
  refine (tt_Phase HG.out _ HF.out).mono ?_
  rintro e wm1 ⟨rfl, hG, hT⟩
  have HG1 := Lib.hid hG
  have HT1 : Hid (Touch (inG p) _ wm1) := Lib.hid (HT0.out.trans hT)
  clear hG hT
  go_wp2_with fail
  go_ret
  exact ⟨rfl, HG1.out, HT1.out⟩
theorem tt_Touch_no (ph : Int) (hph : nth s.zs 11 = ph) (hp0 : ¬ ph = 0) (P : Int) (hP : nth s.zs 10 = P) (hG : G w p c s) (H : HeapAt c s.zs pool os) (hr : In64 r) (ho : obAt os r = none) : Calls Tryz.prog 22 #[.pointer (some ⟨p.a, 0, none⟩), .int .i64 r] w (GP w p c ⟨s.zs, s.m + (2 + askN (wordA c (prev r) 0))⟩ (.bool false)) := by
  have hmf : ∀ (fn : Fn) (first cap : Array Value) (w : World), (Instr.makeFunc fn first cap).run Tryz.prog w = .ok (.func fn first cap) w := fun _ _ _ _ => rfl
  have HC := Lib.hid (fun (w' : World) (m : Nat) (V : Value) (hG' : G w' p c ⟨s.zs, m⟩) => tc_no V hG' H hr ho)
  have HG := Lib.hid hG
  have HF := Lib.hid hph
  have hpb := neq_b hp0
  have HP := Lib.hid hP
  clear hP hG H hr ho hph hp0
  go_enter Tryz.func22, Tryz.ntmps22
  have HT0 : Hid (Touch (inG p) w w) := Lib.hid (Touch.refl _ _)
  go_wp2_with fail
  refine (tt_Phase HG.out _ HF.out).mono ?_
  rintro e wm1 ⟨rfl, hG, hT⟩
  have HG1 := Lib.hid hG
  have HT1 : Hid (Touch (inG p) _ wm1) := Lib.hid (HT0.out.trans hT)
  clear hG hT
  go_wp2_with fail
  refine (tt_Parity HG1.out P HP.out).mono ?_
  rintro e wm2 ⟨rfl, hG, hT⟩
  have HG2 := Lib.hid hG
  have HT2 : Hid (Touch (inG p) _ wm2) := Lib.hid (HT1.out.trans hT)
  clear hG hT
  have HGa := Lib.hid (HG2.out.alloc (.cells #[.int .i64 P] 3))
  have HTa := Lib.hid (HT2.out.alloc (.cells #[.int .i64 P] 3))
  go_wp2_with fail
  refine (HC.out _ _ _ HGa.out).mono ?_
  rintro e v2 ⟨rfl, hG, hT⟩
  have HG2 := Lib.hid hG
  have HT2 := Lib.hid (HTa.out.trans hT)
  clear hG hT
  go_wp2_with fail
  go_ret
  exact ⟨rfl, HG2.out.to' rfl (by show s.m + 1 + 1 + _ = _; simp only [Nat.add_assoc]; omega), HT2.out⟩
theorem tt_Touch_dead (ph : Int) (hph : nth s.zs 11 = ph) (hp0 : ¬ ph = 0) (P : Int) (hP : nth s.zs 10 = P) (hG : G w p c s) (H : HeapAt c s.zs pool os) (ho : o ∈ os) (x : Int) (hx : nth s.zs (adr c o.h 0) = x) (hd : uD x = 1) : Calls Tryz.prog 22 #[.pointer (some ⟨p.a, 0, none⟩), .int .i64 ((o.h : Int) + 1)] w (GP w p c ⟨s.zs, s.m + 4⟩ (.bool false)) := by
  have hmf : ∀ (fn : Fn) (first cap : Array Value) (w : World), (Instr.makeFunc fn first cap).run Tryz.prog w = .ok (.func fn first cap) w := fun _ _ _ _ => rfl
  have HC := Lib.hid (fun (w' : World) (q m : Nat) (hG' : G w' p c ⟨s.zs, m⟩) (hq : Blk w' q #[.int .i64 P] 3) (hqo : ¬ ofG p q) => tc_stay 69 Tryz.call69 q P hG' H ho x hx hq hqo (fun w'' b hq' hne hb' => tk_Touch_dead _ _ _ _ _ _ _ _ _ w'' hq' hne hb' hd))
  have HG := Lib.hid hG
  have HF := Lib.hid hph
  have hpb := neq_b hp0
  have HP := Lib.hid hP
  clear hP hG H ho hx hph hp0 hd
  go_enter Tryz.func22, Tryz.ntmps22
  have HT0 : Hid (Touch (inG p) w w) := Lib.hid (Touch.refl _ _)
  go_wp2_with fail
  refine (tt_Phase HG.out _ HF.out).mono ?_
  rintro e wm1 ⟨rfl, hG, hT⟩
  have HG1 := Lib.hid hG
  have HT1 : Hid (Touch (inG p) _ wm1) := Lib.hid (HT0.out.trans hT)
  clear hG hT
  go_wp2_with fail
  refine (tt_Parity HG1.out P HP.out).mono ?_
  rintro e wm2 ⟨rfl, hG, hT⟩
  have HG2 := Lib.hid hG
  have HT2 : Hid (Touch (inG p) _ wm2) := Lib.hid (HT1.out.trans hT)
  clear hG hT
  have HGa := Lib.hid (HG2.out.alloc (.cells #[.int .i64 P] 3))
  have HTa := Lib.hid (HT2.out.alloc (.cells #[.int .i64 P] 3))
  have HQa := Lib.hid (Blk.new wm2 #[.int .i64 P] 3)
  have HQo := Lib.hid HG2.out.new_no
  go_wp2_with fail
  refine (HC.out _ _ _ HGa.out HQa.out HQo.out).mono ?_
  rintro e w2 ⟨rfl, hG, hT⟩
  have HG2 := Lib.hid hG
  have HT2 := Lib.hid (HTa.out.trans hT)
  clear hG hT
  go_wp2_with fail
  go_ret
  exact ⟨rfl, HG2.out, HT2.out⟩
theorem tt_Touch_black (ph : Int) (hph : nth s.zs 11 = ph) (hp0 : ¬ ph = 0) (P : Int) (hP : nth s.zs 10 = P) (hG : G w p c s) (H : HeapAt c s.zs pool os) (ho : o ∈ os) (x : Int) (hx : nth s.zs (adr c o.h 0) = x) (hd : uD x = 0) (hc : uC x = P) : Calls Tryz.prog 22 #[.pointer (some ⟨p.a, 0, none⟩), .int .i64 ((o.h : Int) + 1)] w (GP w p c ⟨s.zs, s.m + 4⟩ (.bool false)) := by
  have hmf : ∀ (fn : Fn) (first cap : Array Value) (w : World), (Instr.makeFunc fn first cap).run Tryz.prog w = .ok (.func fn first cap) w := fun _ _ _ _ => rfl
  have HC := Lib.hid (fun (w' : World) (q m : Nat) (hG' : G w' p c ⟨s.zs, m⟩) (hq : Blk w' q #[.int .i64 P] 3) (hqo : ¬ ofG p q) => tc_stay 69 Tryz.call69 q P hG' H ho x hx hq hqo (fun w'' b hq' hne hb' => tk_Touch_black _ _ _ _ _ _ _ _ _ w'' hq' hne hb' hd hc))
  have HG := Lib.hid hG
  have HF := Lib.hid hph
  have hpb := neq_b hp0
  have HP := Lib.hid hP
  clear hP hG H ho hx hph hp0 hd hc
  go_enter Tryz.func22, Tryz.ntmps22
  have HT0 : Hid (Touch (inG p) w w) := Lib.hid (Touch.refl _ _)
  go_wp2_with fail
  refine (tt_Phase HG.out _ HF.out).mono ?_
  rintro e wm1 ⟨rfl, hG, hT⟩
  have HG1 := Lib.hid hG
  have HT1 : Hid (Touch (inG p) _ wm1) := Lib.hid (HT0.out.trans hT)
  clear hG hT
  go_wp2_with fail
  refine (tt_Parity HG1.out P HP.out).mono ?_
  rintro e wm2 ⟨rfl, hG, hT⟩
  have HG2 := Lib.hid hG
  have HT2 : Hid (Touch (inG p) _ wm2) := Lib.hid (HT1.out.trans hT)
  clear hG hT
  have HGa := Lib.hid (HG2.out.alloc (.cells #[.int .i64 P] 3))
  have HTa := Lib.hid (HT2.out.alloc (.cells #[.int .i64 P] 3))
  have HQa := Lib.hid (Blk.new wm2 #[.int .i64 P] 3)
  have HQo := Lib.hid HG2.out.new_no
  go_wp2_with fail
  refine (HC.out _ _ _ HGa.out HQa.out HQo.out).mono ?_
  rintro e w2 ⟨rfl, hG, hT⟩
  have HG2 := Lib.hid hG
  have HT2 := Lib.hid (HTa.out.trans hT)
  clear hG hT
  go_wp2_with fail
  go_ret
  exact ⟨rfl, HG2.out, HT2.out⟩
theorem tt_Touch_in (ph : Int) (hph : nth s.zs 11 = ph) (hp0 : ¬ ph = 0) (P : Int) (hP : nth s.zs 10 = P) (h01 : P = 0 ∨ P = 1) (hG : G w p c s) (H : HeapAt c s.zs pool os) (ho : o ∈ os) (x : Int) (hx : nth s.zs (adr c o.h 0) = x) (hd : uD x = 0) (hc : ¬ uC x = P) (l : List Nat) (hR : RingAt c (s.zs.set (adr c o.h 0) (nTag x P (uN x) (uS x) (uD x))) l) (hl : o.h ∈ l) : Calls Tryz.prog 22 #[.pointer (some ⟨p.a, 0, none⟩), .int .i64 ((o.h : Int) + 1)] w (GP w p c ⟨s.zs.set (adr c o.h 0) (nTag x P (uN x) (uS x) (uD x)), s.m + 6⟩ (.bool true)) := by
  have hmf : ∀ (fn : Fn) (first cap : Array Value) (w : World), (Instr.makeFunc fn first cap).run Tryz.prog w = .ok (.func fn first cap) w := fun _ _ _ _ => rfl
  have HC := Lib.hid (fun (w' : World) (q m : Nat) (hG' : G w' p c ⟨s.zs, m⟩) (hq : Blk w' q #[.int .i64 P] 3) (hqo : ¬ ofG p q) => tc_yes 69 Tryz.call69 q P hG' H ho x hx hq hqo P (uN x) (uS x) (uD x) h01 (Tag01 x).2.1 (Tag01 x).2.2.1 (Tag01 x).2.2.2 (fun w'' b hq' hne hb' => tk_Touch _ _ _ _ _ _ _ _ _ w'' hq' hne hb' hd hc))
  have hA := H.obs o ho
  have hW := hG.may.w
  have HB := Lib.hid hA.hlt
  have HV : Hid (4 < c.W) := Lib.hid (by omega)
  have e1 := w64_ob hG.may hA.hlt
  clear hA hW
  have hA := H.obs o ho
  have hmk := (hR.mrk o.h hA.hlt).2 hl
  have htk := hA.tok
  have hhd := hA.head
  rw [hx] at htk hhd
  have hok := nTag_ok htk hhd h01 (Tag01 x).2.1 (Tag01 x).2.2.1 (Tag01 x).2.2.2
  have hadr : adr c o.h 0 < s.zs.length := by rw [hG.len]; exact adr_lt hA.hlt (by have := hG.may.w; omega)
  have hset : nth (s.zs.set (adr c o.h 0) (nTag x P (uN x) (uS x) (uD x))) (adr c o.h 0) = nTag x P (uN x) (uS x) (uD x) := nth_set_eq hadr _
  have HHd : Hid (HeadT (nth (s.zs.set (adr c o.h 0) (nTag x P (uN x) (uS x) (uD x))) (adr c o.h 0))) := Lib.hid (by rw [hset]; unfold HeadT at *; rw [hok.2.1]; exact hhd)
  have HTg : Hid (tagI c (s.zs.set (adr c o.h 0) (nTag x P (uN x) (uS x) (uD x))) (o.h : Int) = nTag x P (uN x) (uS x) (uD x)) := Lib.hid (by rw [tagI_in hG.may hA.hlt]; exact hset)
  have HRg := Lib.hid hR
  have HLn := Lib.hid hl
  have HMk : Hid (headT_ (nTag x P (uN x) (uS x) (uD x)) = false ∨ headT_ (nTag x P (uN x) (uS x) (uD x)) = true ∧ markB (nTag x P (uN x) (uS x) (uD x)) = true) := Lib.hid (.inr ⟨headT_yes (by unfold HeadT at *; rw [hok.2.1]; exact hhd), decide_eq_true (by rw [← hset]; exact hmk)⟩)
  have HW : Hid (askN (wordA c (o.h : Int) 0) = 1) := Lib.hid (by rw [show wordA c (o.h : Int) 0 = some (adr c o.h 0) from adr_word hA.hlt (v := 0) (by have := hG.may.w; omega)]; rfl)
  have HG := Lib.hid hG
  have HF := Lib.hid hph
  have hpb := neq_b hp0
  have HP := Lib.hid hP
  clear hP hG H ho hx h01 hph hp0 hd hc hl hR hA hmk htk hhd hok hset hadr
  go_enter Tryz.func22, Tryz.ntmps22
  have HT0 : Hid (Touch (inG p) w w) := Lib.hid (Touch.refl _ _)
  go_wp2_with fail
  refine (tt_Phase HG.out _ HF.out).mono ?_
  rintro e wm1 ⟨rfl, hG, hT⟩
  have HG1 := Lib.hid hG
  have HT1 : Hid (Touch (inG p) _ wm1) := Lib.hid (HT0.out.trans hT)
  clear hG hT
  go_wp2_with fail
  refine (tt_Parity HG1.out P HP.out).mono ?_
  rintro e wm2 ⟨rfl, hG, hT⟩
  have HG2 := Lib.hid hG
  have HT2 : Hid (Touch (inG p) _ wm2) := Lib.hid (HT1.out.trans hT)
  clear hG hT
  have HGa := Lib.hid (HG2.out.alloc (.cells #[.int .i64 P] 3))
  have HTa := Lib.hid (HT2.out.alloc (.cells #[.int .i64 P] 3))
  have HQa := Lib.hid (Blk.new wm2 #[.int .i64 P] 3)
  have HQo := Lib.hid HG2.out.new_no
  go_wp2_with fail
  refine (HC.out _ _ _ HGa.out HQa.out HQo.out).mono ?_
  rintro e w2 ⟨rfl, hG, hT⟩
  have HG2 := Lib.hid hG
  have HT2 := Lib.hid (HTa.out.trans hT)
  clear hG hT
  go_wp2_with fail
  refine (rg_add_no p c _ (o.h : Int) _ _ HG2.out HTg.out HMk.out).mono ?_
  rintro e wm3 ⟨rfl, hG, hT⟩
  have HG3 := Lib.hid hG
  have HT3 : Hid (Touch (inG p) _ wm3) := Lib.hid (HT2.out.trans hT)
  clear hG hT
  go_wp2_with fail
  go_ret
  exact ⟨rfl, HG3.out.to' rfl (by show s.m + 1 + 4 + askN (wordA c (o.h : Int) 0) = s.m + 6; rw [HW.out]), HT3.out⟩
theorem tt_Touch_new (ph : Int) (hph : nth s.zs 11 = ph) (hp0 : ¬ ph = 0) (P : Int) (hP : nth s.zs 10 = P) (h01 : P = 0 ∨ P = 1) (hG : G w p c s) (H : HeapAt c s.zs pool os) (ho : o ∈ os) (x : Int) (hx : nth s.zs (adr c o.h 0) = x) (hd : uD x = 0) (hc : ¬ uC x = P) (l : List Nat) (hR : RingAt c (s.zs.set (adr c o.h 0) (nTag x P (uN x) (uS x) (uD x))) l) (hl : o.h ∉ l) : Calls Tryz.prog 22 #[.pointer (some ⟨p.a, 0, none⟩), .int .i64 ((o.h : Int) + 1)] w (GP w p c ⟨ringAddZ c o.h (s.zs.set (adr c o.h 0) (nTag x P (uN x) (uS x) (uD x))), s.m + 14⟩ (.bool true)) := by
  have hmf : ∀ (fn : Fn) (first cap : Array Value) (w : World), (Instr.makeFunc fn first cap).run Tryz.prog w = .ok (.func fn first cap) w := fun _ _ _ _ => rfl
  have HC := Lib.hid (fun (w' : World) (q m : Nat) (hG' : G w' p c ⟨s.zs, m⟩) (hq : Blk w' q #[.int .i64 P] 3) (hqo : ¬ ofG p q) => tc_yes 69 Tryz.call69 q P hG' H ho x hx hq hqo P (uN x) (uS x) (uD x) h01 (Tag01 x).2.1 (Tag01 x).2.2.1 (Tag01 x).2.2.2 (fun w'' b hq' hne hb' => tk_Touch _ _ _ _ _ _ _ _ _ w'' hq' hne hb' hd hc))
  have hA := H.obs o ho
  have hW := hG.may.w
  have HB := Lib.hid hA.hlt
  have HV : Hid (4 < c.W) := Lib.hid (by omega)
  have e1 := w64_ob hG.may hA.hlt
  clear hA hW
  have hA := H.obs o ho
  have hmk := (hR.mrk o.h hA.hlt).1
  have htk := hA.tok
  have hhd := hA.head
  rw [hx] at htk hhd
  have hok := nTag_ok htk hhd h01 (Tag01 x).2.1 (Tag01 x).2.2.1 (Tag01 x).2.2.2
  have hadr : adr c o.h 0 < s.zs.length := by rw [hG.len]; exact adr_lt hA.hlt (by have := hG.may.w; omega)
  have hset : nth (s.zs.set (adr c o.h 0) (nTag x P (uN x) (uS x) (uD x))) (adr c o.h 0) = nTag x P (uN x) (uS x) (uD x) := nth_set_eq hadr _
  have HHd : Hid (HeadT (nth (s.zs.set (adr c o.h 0) (nTag x P (uN x) (uS x) (uD x))) (adr c o.h 0))) := Lib.hid (by rw [hset]; unfold HeadT at *; rw [hok.2.1]; exact hhd)
  have HTg : Hid (tagI c (s.zs.set (adr c o.h 0) (nTag x P (uN x) (uS x) (uD x))) (o.h : Int) = nTag x P (uN x) (uS x) (uD x)) := Lib.hid (by rw [tagI_in hG.may hA.hlt]; exact hset)
  have HRg := Lib.hid hR
  have HLn := Lib.hid hl
  have HG := Lib.hid hG
  have HF := Lib.hid hph
  have hpb := neq_b hp0
  have HP := Lib.hid hP
  clear hP hG H ho hx h01 hph hp0 hd hc hl hR hA hmk htk hhd hok hset hadr
  go_enter Tryz.func22, Tryz.ntmps22
  have HT0 : Hid (Touch (inG p) w w) := Lib.hid (Touch.refl _ _)
  go_wp2_with fail
  refine (tt_Phase HG.out _ HF.out).mono ?_
  rintro e wm1 ⟨rfl, hG, hT⟩
  have HG1 := Lib.hid hG
  have HT1 : Hid (Touch (inG p) _ wm1) := Lib.hid (HT0.out.trans hT)
  clear hG hT
  go_wp2_with fail
  refine (tt_Parity HG1.out P HP.out).mono ?_
  rintro e wm2 ⟨rfl, hG, hT⟩
  have HG2 := Lib.hid hG
  have HT2 : Hid (Touch (inG p) _ wm2) := Lib.hid (HT1.out.trans hT)
  clear hG hT
  have HGa := Lib.hid (HG2.out.alloc (.cells #[.int .i64 P] 3))
  have HTa := Lib.hid (HT2.out.alloc (.cells #[.int .i64 P] 3))
  have HQa := Lib.hid (Blk.new wm2 #[.int .i64 P] 3)
  have HQo := Lib.hid HG2.out.new_no
  go_wp2_with fail
  refine (HC.out _ _ _ HGa.out HQa.out HQo.out).mono ?_
  rintro e w2 ⟨rfl, hG, hT⟩
  have HG2 := Lib.hid hG
  have HT2 := Lib.hid (HTa.out.trans hT)
  clear hG hT
  go_wp2_with fail
  refine (rg_add_yes p c _ o.h l _ HG2.out HRg.out HB.out HLn.out HHd.out).mono ?_
  rintro e wm3 ⟨rfl, hG, hT⟩
  have HG3 := Lib.hid hG
  have HT3 : Hid (Touch (inG p) _ wm3) := Lib.hid (HT2.out.trans hT)
  clear hG hT
  go_wp2_with fail
  go_ret
  exact ⟨rfl, HG3.out.to' rfl (by show s.m + 1 + 4 + 9 = s.m + 14; omega), HT3.out⟩
/-! ### Deepen -/
theorem tt_Deepen_no (P : Int) (hP : nth s.zs 10 = P) (hG : G w p c s) (H : HeapAt c s.zs pool os) (hr : In64 r) (ho : obAt os r = none) : Calls Tryz.prog 18 #[.pointer (some ⟨p.a, 0, none⟩), .int .i64 r] w (GP w p c ⟨s.zs, s.m + (2 * askN (wordA c (prev r) 0) + 1)⟩ (.bool false)) := by
  have hmf : ∀ (fn : Fn) (first cap : Array Value) (w : World), (Instr.makeFunc fn first cap).run Tryz.prog w = .ok (.func fn first cap) w := fun _ _ _ _ => rfl
  have HC := Lib.hid (fun (w' : World) (m : Nat) (V : Value) (hG' : G w' p c ⟨s.zs, m⟩) => tc_no V hG' H hr ho)
  have HS := Lib.hid (tt_Shadow_no hG H hr ho)
  have HP := Lib.hid hP
  have HG := Lib.hid hG
  clear hP hG H hr ho
  go_enter Tryz.func18, Tryz.ntmps18
  have HT0 : Hid (Touch (inG p) w w) := Lib.hid (Touch.refl _ _)
  go_wp2_with fail
  refine (HS.out).mono ?_
  rintro e wm1 ⟨rfl, hG, hT⟩
  have HG1 := Lib.hid hG
  have HT1 : Hid (Touch (inG p) _ wm1) := Lib.hid (HT0.out.trans hT)
  clear hG hT
  go_wp2_with fail
  refine (tt_Parity HG1.out P HP.out).mono ?_
  rintro e wm2 ⟨rfl, hG, hT⟩
  have HG2 := Lib.hid hG
  have HT2 : Hid (Touch (inG p) _ wm2) := Lib.hid (HT1.out.trans hT)
  clear hG hT
  have HGa := Lib.hid (HG2.out.alloc (.cells #[.int .i64 P] 3))
  have HTa := Lib.hid (HT2.out.alloc (.cells #[.int .i64 P] 3))
  go_wp2_with fail
  refine (HC.out _ _ _ HGa.out).mono ?_
  rintro e v2 ⟨rfl, hG, hT⟩
  have HG2 := Lib.hid hG
  have HT2 := Lib.hid (HTa.out.trans hT)
  clear hG hT
  go_wp2_with fail
  go_ret
  exact ⟨rfl, HG2.out.to' rfl (by show s.m + _ + 1 + _ = _; omega), HT2.out⟩
theorem tt_Deepen_yes (P : Int) (hP : nth s.zs 10 = P) (h01 : P = 0 ∨ P = 1) (hG : G w p c s) (H : HeapAt c s.zs pool os) (ho : o ∈ os) (x : Int) (hx : nth s.zs (adr c o.h 0) = x) (n : Int) (k : Nat) (hSh : ∀ (w' : World) (m : Nat), G w' p c ⟨s.zs, m⟩ → Calls Tryz.prog 21 #[.pointer (some ⟨p.a, 0, none⟩), .int .i64 ((o.h : Int) + 1)] w' (GP w' p c ⟨s.zs, m + k⟩ (.int .i64 n))) (hn0 : 0 ≤ n) (hn1 : n < 4294967295) : Calls Tryz.prog 18 #[.pointer (some ⟨p.a, 0, none⟩), .int .i64 ((o.h : Int) + 1)] w (GP w p c ⟨(s.zs.set (adr c o.h 0) (nTag x (uC x) (uN x) P (uD x))).set (adr c o.h 4) (n + 1), s.m + (k + 5)⟩ (.bool true)) := by
  have hmf : ∀ (fn : Fn) (first cap : Array Value) (w : World), (Instr.makeFunc fn first cap).run Tryz.prog w = .ok (.func fn first cap) w := fun _ _ _ _ => rfl
  have HC := Lib.hid (fun (w' : World) (q m : Nat) (hG' : G w' p c ⟨s.zs, m⟩) (hq : Blk w' q #[.int .i64 P] 3) (hqo : ¬ ofG p q) => tc_yes 66 Tryz.call66 q P hG' H ho x hx hq hqo (uC x) (uN x) P (uD x) (Tag01 x).1 (Tag01 x).2.1 h01 (Tag01 x).2.2.2 (fun w'' b hq' hne hb' => tk_Deepen _ _ _ _ _ _ _ _ _ w'' hq' hne hb'))
  have hA := H.obs o ho
  have hW := hG.may.w
  have HB := Lib.hid hA.hlt
  have HV : Hid (4 < c.W) := Lib.hid (by omega)
  have e1 := w64_ob hG.may hA.hlt
  clear hA hW
  have HS := Lib.hid hSh
  have HP := Lib.hid hP
  have HG := Lib.hid hG
  have hne : (n == 4294967295) = false := neq_b (by omega)
  have hw1 : IntKind.i64.wrap (n + 1) = n + 1 := IntWalk.i64_in _ (by omega)
  have hw2 : IntKind.u32.wrap (n + 1) = n + 1 := IntWalk.u32_in _ (by omega)
  have HN0 : Hid (0 ≤ n + 1) := Lib.hid (by omega)
  have HN1 : Hid (n + 1 ≤ 4294967295) := Lib.hid (by omega)
  clear hP hG H ho hx h01 hSh hn0 hn1
  go_enter Tryz.func18, Tryz.ntmps18
  have HT0 : Hid (Touch (inG p) w w) := Lib.hid (Touch.refl _ _)
  go_wp2_with fail
  refine (HS.out _ _ HG.out).mono ?_
  rintro e wm1 ⟨rfl, hG, hT⟩
  have HG1 := Lib.hid hG
  have HT1 : Hid (Touch (inG p) _ wm1) := Lib.hid (HT0.out.trans hT)
  clear hG hT
  go_wp2_with fail
  refine (tt_Parity HG1.out P HP.out).mono ?_
  rintro e wm2 ⟨rfl, hG, hT⟩
  have HG2 := Lib.hid hG
  have HT2 : Hid (Touch (inG p) _ wm2) := Lib.hid (HT1.out.trans hT)
  clear hG hT
  have HGa := Lib.hid (HG2.out.alloc (.cells #[.int .i64 P] 3))
  have HTa := Lib.hid (HT2.out.alloc (.cells #[.int .i64 P] 3))
  have HQa := Lib.hid (Blk.new wm2 #[.int .i64 P] 3)
  have HQo := Lib.hid HG2.out.new_no
  go_wp2_with fail
  refine (HC.out _ _ _ HGa.out HQa.out HQo.out).mono ?_
  rintro e w2 ⟨rfl, hG, hT⟩
  have HG2 := Lib.hid hG
  have HT2 := Lib.hid (HTa.out.trans hT)
  clear hG hT
  go_wp2_with fail
  refine (setwordW p c _ o.h 4 _ _ (n + 1) _ HG2.out HB.out HV.out rfl rfl HN0.out HN1.out).mono ?_
  rintro e wm3 ⟨rfl, hG, hT⟩
  have HG3 := Lib.hid hG
  have HT3 : Hid (Touch (inG p) _ wm3) := Lib.hid (HT2.out.trans hT)
  clear hG hT
  go_wp2_with fail
  go_ret
  exact ⟨rfl, HG3.out.to' rfl (by show s.m + k + 4 + 1 = _; omega), HT3.out⟩
/-! ### Lighten -/
theorem tt_Lighten_idle (ph : Int) (hG : G w p c s) (hph : nth s.zs 11 = ph) (h1 : ¬ ph = 1) (h2 : ¬ ph = 2) : Calls Tryz.prog 25 #[.pointer (some ⟨p.a, 0, none⟩), .int .i64 r] w (GP w p c ⟨s.zs, s.m + 1⟩ (.bool false)) := by
  have HG := Lib.hid hG
  have HF := Lib.hid hph
  have n1 : (ph != 1) = true := by simp [h1]
  have n2 : (ph != 2) = true := by simp [h2]
  clear hG hph h1 h2
  go_enter Tryz.func25, Tryz.ntmps25
  have HT0 : Hid (Touch (inG p) w w) := Lib.hid (Touch.refl _ _)
  go_wp2_with fail
  refine (tt_Phase HG.out _ HF.out).mono ?_
  rintro e wm1 ⟨rfl, hG, hT⟩
  have HG1 := Lib.hid hG
  have HT1 : Hid (Touch (inG p) _ wm1) := Lib.hid (HT0.out.trans hT)
  clear hG hT
  go_wp2_with fail
  go_ret
  exact ⟨rfl, HG1.out, HT1.out⟩
theorem tt_Lighten_no (ph : Int) (hph : nth s.zs 11 = ph) (h12 : ph = 1 ∨ ph = 2) (hG : G w p c s) (H : HeapAt c s.zs pool os) (hr : In64 r) (ho : obAt os r = none) : Calls Tryz.prog 25 #[.pointer (some ⟨p.a, 0, none⟩), .int .i64 r] w (GP w p c ⟨s.zs, s.m + (2 * askN (wordA c (prev r) 0) + 1)⟩ (.bool false)) := by
  have HS1 := Lib.hid (fun (w' : World) (m : Nat) (hG' : G w' p c ⟨s.zs, m⟩) => tt_Black_no hG' H hr ho)
  have HS2 := Lib.hid (fun (w' : World) (m : Nat) (hG' : G w' p c ⟨s.zs, m⟩) => tt_Shadow_no hG' H hr ho)
  have HG := Lib.hid hG
  have HF := Lib.hid hph
  clear hG hph H ho
  rcases h12 with rfl | rfl
  · go_enter Tryz.func25, Tryz.ntmps25
    have HT0 : Hid (Touch (inG p) w w) := Lib.hid (Touch.refl _ _)
    go_wp2_with fail
    refine (tt_Phase HG.out _ HF.out).mono ?_
    rintro e wm1 ⟨rfl, hG, hT⟩
    have HG1 := Lib.hid hG
    have HT1 : Hid (Touch (inG p) _ wm1) := Lib.hid (HT0.out.trans hT)
    clear hG hT
    go_wp2_with fail
    refine (HS1.out _ _ HG1.out).mono ?_
    rintro e wm2 ⟨rfl, hG, hT⟩
    have HG2 := Lib.hid hG
    have HT2 : Hid (Touch (inG p) _ wm2) := Lib.hid (HT1.out.trans hT)
    clear hG hT
    go_wp2_with fail
    refine (HS2.out _ _ HG2.out).mono ?_
    rintro e wm3 ⟨rfl, hG, hT⟩
    have HG3 := Lib.hid hG
    have HT3 : Hid (Touch (inG p) _ wm3) := Lib.hid (HT2.out.trans hT)
    clear hG hT
    go_wp2_with fail
    go_ret
    exact ⟨rfl, HG3.out.to' rfl (by show s.m + 1 + _ + _ = _; omega), HT3.out⟩
  · go_enter Tryz.func25, Tryz.ntmps25
    have HT0 : Hid (Touch (inG p) w w) := Lib.hid (Touch.refl _ _)
    go_wp2_with fail
    refine (tt_Phase HG.out _ HF.out).mono ?_
    rintro e wm1 ⟨rfl, hG, hT⟩
    have HG1 := Lib.hid hG
    have HT1 : Hid (Touch (inG p) _ wm1) := Lib.hid (HT0.out.trans hT)
    clear hG hT
    go_wp2_with fail
    refine (HS1.out _ _ HG1.out).mono ?_
    rintro e wm2 ⟨rfl, hG, hT⟩
    have HG2 := Lib.hid hG
    have HT2 : Hid (Touch (inG p) _ wm2) := Lib.hid (HT1.out.trans hT)
    clear hG hT
    go_wp2_with fail
    refine (HS2.out _ _ HG2.out).mono ?_
    rintro e wm3 ⟨rfl, hG, hT⟩
    have HG3 := Lib.hid hG
    have HT3 : Hid (Touch (inG p) _ wm3) := Lib.hid (HT2.out.trans hT)
    clear hG hT
    go_wp2_with fail
    go_ret
    exact ⟨rfl, HG3.out.to' rfl (by show s.m + 1 + _ + _ = _; omega), HT3.out⟩
theorem tt_Lighten_black (ph : Int) (hph : nth s.zs 11 = ph) (h12 : ph = 1 ∨ ph = 2) (hG : G w p c s) (H : HeapAt c s.zs pool os) (ho : o ∈ os) (x : Int) (hx : nth s.zs (adr c o.h 0) = x) (P : Int) (hP : nth s.zs 10 = P) (hc : uC x = P) : Calls Tryz.prog 25 #[.pointer (some ⟨p.a, 0, none⟩), .int .i64 ((o.h : Int) + 1)] w (GP w p c ⟨s.zs, s.m + 4⟩ (.bool false)) := by
  have HS1 := Lib.hid (fun (w' : World) (m : Nat) (hG' : G w' p c ⟨s.zs, m⟩) => tt_Black_yes hG' H ho x hx P hP)
  have HD : Hid (decide (uC x = P) = true) := Lib.hid (decide_eq_true hc)
  clear hx hP hc
  have HG := Lib.hid hG
  have HF := Lib.hid hph
  clear hG hph H ho
  rcases h12 with rfl | rfl
  · go_enter Tryz.func25, Tryz.ntmps25
    have HT0 : Hid (Touch (inG p) w w) := Lib.hid (Touch.refl _ _)
    go_wp2_with fail
    refine (tt_Phase HG.out _ HF.out).mono ?_
    rintro e wm1 ⟨rfl, hG, hT⟩
    have HG1 := Lib.hid hG
    have HT1 : Hid (Touch (inG p) _ wm1) := Lib.hid (HT0.out.trans hT)
    clear hG hT
    go_wp2_with fail
    refine (HS1.out _ _ HG1.out).mono ?_
    rw [HD.out]
    rintro e wm2 ⟨rfl, hG, hT⟩
    have HG2 := Lib.hid hG
    have HT2 : Hid (Touch (inG p) _ wm2) := Lib.hid (HT1.out.trans hT)
    clear hG hT
    go_wp2_with fail
    go_ret
    exact ⟨rfl, HG2.out, HT2.out⟩
  · go_enter Tryz.func25, Tryz.ntmps25
    have HT0 : Hid (Touch (inG p) w w) := Lib.hid (Touch.refl _ _)
    go_wp2_with fail
    refine (tt_Phase HG.out _ HF.out).mono ?_
    rintro e wm1 ⟨rfl, hG, hT⟩
    have HG1 := Lib.hid hG
    have HT1 : Hid (Touch (inG p) _ wm1) := Lib.hid (HT0.out.trans hT)
    clear hG hT
    go_wp2_with fail
    refine (HS1.out _ _ HG1.out).mono ?_
    rw [HD.out]
    rintro e wm2 ⟨rfl, hG, hT⟩
    have HG2 := Lib.hid hG
    have HT2 : Hid (Touch (inG p) _ wm2) := Lib.hid (HT1.out.trans hT)
    clear hG hT
    go_wp2_with fail
    go_ret
    exact ⟨rfl, HG2.out, HT2.out⟩
theorem tt_Lighten_none (ph : Int) (hph : nth s.zs 11 = ph) (h12 : ph = 1 ∨ ph = 2) (hG : G w p c s) (H : HeapAt c s.zs pool os) (ho : o ∈ os) (x : Int) (hx : nth s.zs (adr c o.h 0) = x) (P : Int) (hP : nth s.zs 10 = P) (hc : ¬ uC x = P) (n : Int) (k : Nat) (hSh : ∀ (w' : World) (m : Nat), G w' p c ⟨s.zs, m⟩ → Calls Tryz.prog 21 #[.pointer (some ⟨p.a, 0, none⟩), .int .i64 ((o.h : Int) + 1)] w' (GP w' p c ⟨s.zs, m + k⟩ (.int .i64 n))) (hn : n = 0) : Calls Tryz.prog 25 #[.pointer (some ⟨p.a, 0, none⟩), .int .i64 ((o.h : Int) + 1)] w (GP w p c ⟨s.zs, s.m + (4 + k)⟩ (.bool false)) := by
  have HS1 := Lib.hid (fun (w' : World) (m : Nat) (hG' : G w' p c ⟨s.zs, m⟩) => tt_Black_yes hG' H ho x hx P hP)
  have HD : Hid (decide (uC x = P) = false) := Lib.hid (decide_eq_false hc)
  subst hn
  have HS := Lib.hid hSh
  clear hx hP hc hSh
  have HG := Lib.hid hG
  have HF := Lib.hid hph
  clear hG hph H ho
  rcases h12 with rfl | rfl
  · go_enter Tryz.func25, Tryz.ntmps25
    have HT0 : Hid (Touch (inG p) w w) := Lib.hid (Touch.refl _ _)
    go_wp2_with fail
    refine (tt_Phase HG.out _ HF.out).mono ?_
    rintro e wm1 ⟨rfl, hG, hT⟩
    have HG1 := Lib.hid hG
    have HT1 : Hid (Touch (inG p) _ wm1) := Lib.hid (HT0.out.trans hT)
    clear hG hT
    go_wp2_with fail
    refine (HS1.out _ _ HG1.out).mono ?_
    rw [HD.out]
    rintro e wm2 ⟨rfl, hG, hT⟩
    have HG2 := Lib.hid hG
    have HT2 : Hid (Touch (inG p) _ wm2) := Lib.hid (HT1.out.trans hT)
    clear hG hT
    go_wp2_with fail
    refine (HS.out _ _ HG2.out).mono ?_
    rintro e wm3 ⟨rfl, hG, hT⟩
    have HG3 := Lib.hid hG
    have HT3 : Hid (Touch (inG p) _ wm3) := Lib.hid (HT2.out.trans hT)
    clear hG hT
    go_wp2_with fail
    go_ret
    exact ⟨rfl, HG3.out.to' rfl (by show s.m + 1 + 3 + k = _; omega), HT3.out⟩
  · go_enter Tryz.func25, Tryz.ntmps25
    have HT0 : Hid (Touch (inG p) w w) := Lib.hid (Touch.refl _ _)
    go_wp2_with fail
    refine (tt_Phase HG.out _ HF.out).mono ?_
    rintro e wm1 ⟨rfl, hG, hT⟩
    have HG1 := Lib.hid hG
    have HT1 : Hid (Touch (inG p) _ wm1) := Lib.hid (HT0.out.trans hT)
    clear hG hT
    go_wp2_with fail
    refine (HS1.out _ _ HG1.out).mono ?_
    rw [HD.out]
    rintro e wm2 ⟨rfl, hG, hT⟩
    have HG2 := Lib.hid hG
    have HT2 : Hid (Touch (inG p) _ wm2) := Lib.hid (HT1.out.trans hT)
    clear hG hT
    go_wp2_with fail
    refine (HS.out _ _ HG2.out).mono ?_
    rintro e wm3 ⟨rfl, hG, hT⟩
    have HG3 := Lib.hid hG
    have HT3 : Hid (Touch (inG p) _ wm3) := Lib.hid (HT2.out.trans hT)
    clear hG hT
    go_wp2_with fail
    go_ret
    exact ⟨rfl, HG3.out.to' rfl (by show s.m + 1 + 3 + k = _; omega), HT3.out⟩
theorem tt_Lighten_yes (ph : Int) (hph : nth s.zs 11 = ph) (h12 : ph = 1 ∨ ph = 2) (hG : G w p c s) (H : HeapAt c s.zs pool os) (ho : o ∈ os) (x : Int) (hx : nth s.zs (adr c o.h 0) = x) (P : Int) (hP : nth s.zs 10 = P) (hc : ¬ uC x = P) (n : Int) (k : Nat) (hSh : ∀ (w' : World) (m : Nat), G w' p c ⟨s.zs, m⟩ → Calls Tryz.prog 21 #[.pointer (some ⟨p.a, 0, none⟩), .int .i64 ((o.h : Int) + 1)] w' (GP w' p c ⟨s.zs, m + k⟩ (.int .i64 n))) (hn : 0 < n) (hn1 : n ≤ 4294967295) : Calls Tryz.prog 25 #[.pointer (some ⟨p.a, 0, none⟩), .int .i64 ((o.h : Int) + 1)] w (GP w p c ⟨s.zs.set (adr c o.h 4) (n - 1), s.m + (5 + k)⟩ (.bool true)) := by
  have HS1 := Lib.hid (fun (w' : World) (m : Nat) (hG' : G w' p c ⟨s.zs, m⟩) => tt_Black_yes hG' H ho x hx P hP)
  have hA := H.obs o ho
  have hW := hG.may.w
  have HB := Lib.hid hA.hlt
  have HV : Hid (4 < c.W) := Lib.hid (by omega)
  have e1 := w64_ob hG.may hA.hlt
  clear hA hW
  have HD : Hid (decide (uC x = P) = false) := Lib.hid (decide_eq_false hc)
  have HS := Lib.hid hSh
  have hw1 : IntKind.i64.wrap (n - 1) = n - 1 := IntWalk.i64_in _ (by omega)
  have hw2 : IntKind.u32.wrap (n - 1) = n - 1 := IntWalk.u32_in _ (by omega)
  have HN0 : Hid (0 ≤ n - 1) := Lib.hid (by omega)
  have HN1 : Hid (n - 1 ≤ 4294967295) := Lib.hid (by omega)
  clear hx hP hc hSh hn1
  have HG := Lib.hid hG
  have HF := Lib.hid hph
  clear hG hph H ho
  rcases h12 with rfl | rfl
  · go_enter Tryz.func25, Tryz.ntmps25
    have HT0 : Hid (Touch (inG p) w w) := Lib.hid (Touch.refl _ _)
    go_wp2_with fail
    refine (tt_Phase HG.out _ HF.out).mono ?_
    rintro e wm1 ⟨rfl, hG, hT⟩
    have HG1 := Lib.hid hG
    have HT1 : Hid (Touch (inG p) _ wm1) := Lib.hid (HT0.out.trans hT)
    clear hG hT
    go_wp2_with fail
    refine (HS1.out _ _ HG1.out).mono ?_
    rw [HD.out]
    rintro e wm2 ⟨rfl, hG, hT⟩
    have HG2 := Lib.hid hG
    have HT2 : Hid (Touch (inG p) _ wm2) := Lib.hid (HT1.out.trans hT)
    clear hG hT
    go_wp2_with fail
    refine (HS.out _ _ HG2.out).mono ?_
    rintro e wm3 ⟨rfl, hG, hT⟩
    have HG3 := Lib.hid hG
    have HT3 : Hid (Touch (inG p) _ wm3) := Lib.hid (HT2.out.trans hT)
    clear hG hT
    go_wp2_with fail
    refine (setwordW p c _ o.h 4 _ _ (n - 1) _ HG3.out HB.out HV.out rfl rfl HN0.out HN1.out).mono ?_
    rintro e wm4 ⟨rfl, hG, hT⟩
    have HG4 := Lib.hid hG
    have HT4 : Hid (Touch (inG p) _ wm4) := Lib.hid (HT3.out.trans hT)
    clear hG hT
    go_wp2_with fail
    go_ret
    exact ⟨rfl, HG4.out.to' rfl (by show s.m + 1 + 3 + k + 1 = _; omega), HT4.out⟩
  · go_enter Tryz.func25, Tryz.ntmps25
    have HT0 : Hid (Touch (inG p) w w) := Lib.hid (Touch.refl _ _)
    go_wp2_with fail
    refine (tt_Phase HG.out _ HF.out).mono ?_
    rintro e wm1 ⟨rfl, hG, hT⟩
    have HG1 := Lib.hid hG
    have HT1 : Hid (Touch (inG p) _ wm1) := Lib.hid (HT0.out.trans hT)
    clear hG hT
    go_wp2_with fail
    refine (HS1.out _ _ HG1.out).mono ?_
    rw [HD.out]
    rintro e wm2 ⟨rfl, hG, hT⟩
    have HG2 := Lib.hid hG
    have HT2 : Hid (Touch (inG p) _ wm2) := Lib.hid (HT1.out.trans hT)
    clear hG hT
    go_wp2_with fail
    refine (HS.out _ _ HG2.out).mono ?_
    rintro e wm3 ⟨rfl, hG, hT⟩
    have HG3 := Lib.hid hG
    have HT3 : Hid (Touch (inG p) _ wm3) := Lib.hid (HT2.out.trans hT)
    clear hG hT
    go_wp2_with fail
    refine (setwordW p c _ o.h 4 _ _ (n - 1) _ HG3.out HB.out HV.out rfl rfl HN0.out HN1.out).mono ?_
    rintro e wm4 ⟨rfl, hG, hT⟩
    have HG4 := Lib.hid hG
    have HT4 : Hid (Touch (inG p) _ wm4) := Lib.hid (HT3.out.trans hT)
    clear hG hT
    go_wp2_with fail
    go_ret
    exact ⟨rfl, HG4.out.to' rfl (by show s.m + 1 + 3 + k + 1 = _; omega), HT4.out⟩
end
end Go.Proofs.YtmcgplblbdjaiaaGreat.Pk

/-
  Package tint over a world: the bundle tintFns.
-/
namespace Go.Proofs.YtmcgplblbdjaiaaGreat.Pk
open Go.RowKit
set_option linter.unusedVariables false
set_option linter.unusedSimpArgs false
set_option maxRecDepth 100000

section
variable {c : Cf} {D D' : Wd} {zs zs' : List Int} {t : Th} {r : Int}
theorem hasB_mem (l : List Nat) (b : Nat) : hasB (ints l) (b : Int) = decide (b ∈ l) := by
  unfold hasB ints
  rw [List.any_map]
  induction l with
  | nil => rfl
  | cons a l ih =>
    rw [List.any_cons, ih]
    by_cases e : a = b
    · subst e; simp
    · have e1 : ¬ ((a : Int) = (b : Int)) := by omega
      have e2 : ¬ b = a := fun h => e h.symm
      simp [e1, e2]
theorem Wz.set (h : Wz c zs) (k : Nat) {v : Int} (h0 : 0 ≤ v) (h1 : v ≤ 4294967295) : Wz c (zs.set k v) := ⟨h.may, by simp; exact h.len, h.wf.set k h0 h1⟩
theorem ob_x (zs : List Int) (t : Th) : nth zs (adr c t.ob.h 0) = nth zs (adr c t.h 0) := rfl
theorem ask_le1 (a : Option Nat) : askN a ≤ 1 := askN_le a
/-! ### Registers -/
theorem tf_turn (hz : Wz c zs) (R : RepW c zs D) : RepW c (zs.set 10 (1 - D.parity)) D.turn := by
  refine R.setReg hz.may hz.len (k := 10) (by omega) (by omega) rfl rfl rfl rfl rfl rfl rfl rfl (fun j h1 h2 h3 => ?_) (by have := R.par; show 1 - D.parity = 0 ∨ 1 - D.parity = 1; omega)
  have : j = 11 ∨ j = 12 ∨ j = 13 ∨ j = 14 ∨ j = 15 ∨ j = 16 ∨ j = 17 ∨ j = 18 := by omega
  rcases this with rfl | rfl | rfl | rfl | rfl | rfl | rfl | rfl <;> rfl
theorem tf_move (hz : Wz c zs) (R : RepW c zs D) (x y : Int) : RepW c ((zs.set 12 x).set 13 y) (D.move x y) := by
  have R1 : RepW c (zs.set 12 x) { D with cursor := x } := by
    refine R.setReg hz.may hz.len (k := 12) (by omega) (by omega) rfl rfl rfl rfl rfl rfl rfl rfl (fun j h1 h2 h3 => ?_) R.par
    have : j = 10 ∨ j = 11 ∨ j = 13 ∨ j = 14 ∨ j = 15 ∨ j = 16 ∨ j = 17 ∨ j = 18 := by omega
    rcases this with rfl | rfl | rfl | rfl | rfl | rfl | rfl | rfl <;> rfl
  refine R1.setReg hz.may (by simp; exact hz.len) (k := 13) (by omega) (by omega) rfl rfl rfl rfl rfl rfl rfl rfl (fun j h1 h2 h3 => ?_) R.par
  have : j = 10 ∨ j = 11 ∨ j = 12 ∨ j = 14 ∨ j = 15 ∨ j = 16 ∨ j = 17 ∨ j = 18 := by omega
  rcases this with rfl | rfl | rfl | rfl | rfl | rfl | rfl | rfl <;> rfl
theorem tf_begin (hz : Wz c zs) (R : RepW c zs D) (y : Int) : RepW c (((((zs.set 11 y).set 12 0).set 13 0).set 14 0).set 15 0) (D.begin y) := by
  have R1 : RepW c (zs.set 11 y) { D with phase := y } := by
    refine R.setReg hz.may hz.len (k := 11) (by omega) (by omega) rfl rfl rfl rfl rfl rfl rfl rfl (fun j h1 h2 h3 => ?_) R.par
    have : j = 10 ∨ j = 12 ∨ j = 13 ∨ j = 14 ∨ j = 15 ∨ j = 16 ∨ j = 17 ∨ j = 18 := by omega
    rcases this with rfl | rfl | rfl | rfl | rfl | rfl | rfl | rfl <;> rfl
  have R2 : RepW c ((zs.set 11 y).set 12 0) { D with phase := y, cursor := 0 } := by
    refine R1.setReg hz.may (by simp; exact hz.len) (k := 12) (by omega) (by omega) rfl rfl rfl rfl rfl rfl rfl rfl (fun j h1 h2 h3 => ?_) R.par
    have : j = 10 ∨ j = 11 ∨ j = 13 ∨ j = 14 ∨ j = 15 ∨ j = 16 ∨ j = 17 ∨ j = 18 := by omega
    rcases this with rfl | rfl | rfl | rfl | rfl | rfl | rfl | rfl <;> rfl
  have R3 : RepW c (((zs.set 11 y).set 12 0).set 13 0) { D with phase := y, cursor := 0, field := 0 } := by
    refine R2.setReg hz.may (by simp; exact hz.len) (k := 13) (by omega) (by omega) rfl rfl rfl rfl rfl rfl rfl rfl (fun j h1 h2 h3 => ?_) R.par
    have : j = 10 ∨ j = 11 ∨ j = 12 ∨ j = 14 ∨ j = 15 ∨ j = 16 ∨ j = 17 ∨ j = 18 := by omega
    rcases this with rfl | rfl | rfl | rfl | rfl | rfl | rfl | rfl <;> rfl
  have R4 : RepW c ((((zs.set 11 y).set 12 0).set 13 0).set 14 0) { D with phase := y, cursor := 0, field := 0, scan := 0 } := by
    refine R3.setReg hz.may (by simp; exact hz.len) (k := 14) (by omega) (by omega) rfl rfl rfl rfl rfl rfl rfl rfl (fun j h1 h2 h3 => ?_) R.par
    have : j = 10 ∨ j = 11 ∨ j = 12 ∨ j = 13 ∨ j = 15 ∨ j = 16 ∨ j = 17 ∨ j = 18 := by omega
    rcases this with rfl | rfl | rfl | rfl | rfl | rfl | rfl | rfl <;> rfl
  refine R4.setReg hz.may (by simp; exact hz.len) (k := 15) (by omega) (by omega) rfl rfl rfl rfl rfl rfl rfl rfl (fun j h1 h2 h3 => ?_) R.par
  have : j = 10 ∨ j = 11 ∨ j = 12 ∨ j = 13 ∨ j = 14 ∨ j = 16 ∨ j = 17 ∨ j = 18 := by omega
  rcases this with rfl | rfl | rfl | rfl | rfl | rfl | rfl | rfl <;> rfl
/-! ### Marks -/
theorem tf_none (R : RepW c zs D) (hf : D.find r = none) : obAt D.obs r = none := by rw [obAt_find R r, hf]; rfl
/-- A mark, told by a world's. -/
theorem tf_tag (R : RepW c zs D) (hf : D.find r = some t) {c' n' s' d' : Int} (hz : Wz c zs) (hc : c' = 0 ∨ c' = 1) (hn : n' = 0 ∨ n' = 1) (hs : s' = 0 ∨ s' = 1) (hd : d' = uD (nth zs (adr c t.h 0)) ∨ d' = 1) (f : Mrk → Mrk)
    (hm : f t.mr = { t.mr with color := c', count := n', shade := s', dead := decide (d' = 1) }) : RepW c (zs.set (adr c t.h 0) (nTag (nth zs (adr c t.h 0)) c' n' s' d')) (D.mark r f) := by
  obtain ⟨h1, h2, h3, h4, h5⟩ := R.tagOf hf
  refine R.newTag hz.may hz.len hf hc hn hs ?_ (fun h => ?_) hm
  · have := (Tag01 (nth zs (adr c t.h 0))).2.2.2
    rcases hd with rfl | rfl
    · exact this
    · exact .inr rfl
  · rcases hd with rfl | rfl
    · exact h5.dead1 h
    · rfl
theorem tf_paint (R : RepW c zs D) (hz : Wz c zs) (hf : D.find r = some t) : RepW c (zs.set (adr c t.h 0) (nTag (nth zs (adr c t.h 0)) D.parity (uN (nth zs (adr c t.h 0))) (uS (nth zs (adr c t.h 0))) (uD (nth zs (adr c t.h 0))))) (D.paint r) := by
  obtain ⟨h1, h2, h3, h4, h5⟩ := R.tagOf hf
  exact tf_tag R hf hz R.par (Tag01 _).2.1 (Tag01 _).2.2.1 (.inl rfl) _ (by simp only; rw [h5.cN, h5.cS, h5.deadB])
theorem tf_done (R : RepW c zs D) (hz : Wz c zs) (hf : D.find r = some t) : RepW c (zs.set (adr c t.h 0) (nTag (nth zs (adr c t.h 0)) (uC (nth zs (adr c t.h 0))) D.parity (uS (nth zs (adr c t.h 0))) (uD (nth zs (adr c t.h 0))))) (D.done r) := by
  obtain ⟨h1, h2, h3, h4, h5⟩ := R.tagOf hf
  exact tf_tag R hf hz (Tag01 _).1 R.par (Tag01 _).2.2.1 (.inl rfl) _ (by simp only; rw [h5.cC, h5.cS, h5.deadB])
theorem tf_kill (R : RepW c zs D) (hz : Wz c zs) (hf : D.find r = some t) : RepW c (zs.set (adr c t.h 0) (nTag (nth zs (adr c t.h 0)) (uC (nth zs (adr c t.h 0))) (uN (nth zs (adr c t.h 0))) (uS (nth zs (adr c t.h 0))) 1)) (D.kill r) := by
  obtain ⟨h1, h2, h3, h4, h5⟩ := R.tagOf hf
  exact tf_tag R hf hz (Tag01 _).1 (Tag01 _).2.1 (Tag01 _).2.2.1 (.inr rfl) _ (by simp only; rw [h5.cC, h5.cN, h5.cS]; rfl)
theorem tf_dye (R : RepW c zs D) (hz : Wz c zs) (hf : D.find r = some t) : RepW c ((zs.set (adr c t.h 0) (nTag (nth zs (adr c t.h 0)) D.parity D.parity D.parity (uD (nth zs (adr c t.h 0))))).set (adr c t.h 4) 0) (D.dye r) := by
  obtain ⟨h1, h2, h3, h4, h5⟩ := R.tagOf hf
  have R1 := tf_tag R hf hz R.par R.par R.par (.inl rfl) (fun m => { m with color := D.parity, count := D.parity, shade := D.parity }) (by simp only; rw [h5.deadB])
  have R2 := R1.setOwn hz.may (by simp; exact hz.len) (mark_find _ hf) (v := 4) (.inr rfl) (x := 0) (f := fun m => { m with shadow := 0 }) rfl
  rw [mark_mark] at R2
  exact R2
theorem tf_deepen (R : RepW c zs D) (hz : Wz c zs) (hf : D.find r = some t) : RepW c ((zs.set (adr c t.h 0) (nTag (nth zs (adr c t.h 0)) (uC (nth zs (adr c t.h 0))) (uN (nth zs (adr c t.h 0))) D.parity (uD (nth zs (adr c t.h 0))))).set (adr c t.h 4) (D.shd r + 1)) (D.deepen r) := by
  obtain ⟨h1, h2, h3, h4, h5⟩ := R.tagOf hf
  have R1 := tf_tag R hf hz (Tag01 _).1 (Tag01 _).2.1 R.par (.inl rfl) (fun m => { m with shade := D.parity }) (by simp only; rw [h5.cC, h5.cN, h5.deadB])
  have R2 := R1.setOwn hz.may (by simp; exact hz.len) (mark_find _ hf) (v := 4) (.inr rfl) (x := D.shd r + 1) (f := fun m => { m with shadow := D.shd r + 1 }) rfl
  rw [mark_mark] at R2
  exact R2
/-- The shadow, as the program asks for it. -/
theorem tf_shadow (R : RepW c zs D) (hz : Wz c zs) (hf : D.find r = some t) : ∃ k, k ≤ 4 ∧ 0 ≤ D.shd r ∧ D.shd r ≤ 4294967295 ∧ ∀ (p : Pl) (w : World) (m : Nat), G w p c ⟨zs, m⟩ → Calls Tryz.prog 21 #[.pointer (some ⟨p.a, 0, none⟩), .int .i64 ((t.ob.h : Int) + 1)] w (GP w p c ⟨zs, m + k⟩ (.int .i64 (D.shd r))) := by
  obtain ⟨h1, h2, h3, h4, h5⟩ := R.tagOf hf
  have hP := R.reg 10 (by omega) (by omega)
  have hwf := hz.wf (adr c t.h 4)
  by_cases e : t.mr.shade = D.parity
  · have es : D.shd r = nth zs (adr c t.h 4) := by unfold Wd.shd; rw [hf]; simp only; rw [if_pos e, h5.w4]
    refine ⟨4, by omega, by rw [es]; exact hwf.1, by rw [es]; exact hwf.2, fun p w m hG => ?_⟩
    rw [es]
    exact tt_Shadow_yes (s := ⟨zs, m⟩) (o := t.ob) hG R.heap h3 (nth zs (adr c t.h 0)) (ob_x zs t) D.parity hP (by show uS (nth zs (adr c t.h 0)) = _; rw [h5.cS]; exact e) _ rfl
  · have es : D.shd r = 0 := by unfold Wd.shd; rw [hf]; simp only; rw [if_neg e]
    refine ⟨3, by omega, by rw [es]; decide, by rw [es]; decide, fun p w m hG => ?_⟩
    rw [es]
    exact tt_Shadow_0 (s := ⟨zs, m⟩) (o := t.ob) hG R.heap h3 (nth zs (adr c t.h 0)) (ob_x zs t) D.parity hP (by show ¬ uS (nth zs (adr c t.h 0)) = _; rw [h5.cS]; exact e)
theorem tf_lighten (R : RepW c zs D) (hz : Wz c zs) (hf : D.find r = some t) (hs : D.shd r ≠ 0) : RepW c (zs.set (adr c t.h 4) (D.shd r - 1)) (D.mark r (fun m => { m with shadow := m.shadow - 1 })) := by
  obtain ⟨h1, h2, h3, h4, h5⟩ := R.tagOf hf
  have es : D.shd r = t.mr.shadow := by
    unfold Wd.shd at hs ⊢
    rw [hf] at hs ⊢
    simp only at hs ⊢
    split
    · rfl
    · rename_i e; rw [if_neg e] at hs; exact absurd rfl hs
  rw [es]
  exact R.setOwn hz.may hz.len hf (v := 4) (.inr rfl) (x := t.mr.shadow - 1) (f := fun m => { m with shadow := m.shadow - 1 }) rfl
theorem touch_stay {D : Wd} {r : Int} (h : D.toucht r = false) : D.touch r = D := by
  unfold Wd.touch
  rw [if_neg (by rw [h]; decide)]
theorem lighten_stay {D : Wd} {r : Int} (h : D.lighter r = false) : D.lighten r = D := by
  unfold Wd.lighten
  rw [if_neg (by rw [h]; decide)]
/-! ### Touched: it stands in the ring -/
theorem tf_ringAdd (R : RepW c zs D) (hz : Wz c zs) (hf : D.find r = some t) (hn : t.h ∉ D.ring) (hg : t.h + 1 ∉ D.grave) : RepW c (ringAddZ c t.h zs) { D with ring := D.ring ++ [t.h] } := by
  have hm := hz.may
  have hw := hm.w
  obtain ⟨h1, h2, h3, h4, h5⟩ := R.tagOf hf
  obtain ⟨K1, K2, K3⟩ := R.heap.ringAdd R.ring hm hz.len h3 (show t.ob.h ∉ D.ring from hn)
  have hmem : ∀ x, x ∈ D.ring → ∃ u, u ∈ D.live ∧ u.h = x := fun x hx => by
    obtain ⟨o, ho, e⟩ := R.heap.ringHead hm R.ring hx
    obtain ⟨u, hu, rfl⟩ := List.mem_map.1 ho
    exact ⟨u, hu, e⟩
  have out : ∀ i, (i ≠ 7 ∧ i ≠ 8 ∧ i ≠ 9 ∧ i ≠ adr c t.h 0 ∧ ∀ x, (x = t.h ∨ x ∈ D.ring) → i ≠ adr c x 6 ∧ i ≠ adr c x 7) → nth (ringAddZ c t.h zs) i = nth zs i := fun i hi => ringAdd_out R.ring hz.len hi
  have oreg : ∀ i, i < 24 → i ≠ 7 → i ≠ 8 → i ≠ 9 → nth (ringAddZ c t.h zs) i = nth zs i := fun i h24 a7 a8 a9 => out i ⟨a7, a8, a9, by have := adr_24 c t.h 0; omega, fun x _ => ⟨by have := adr_24 c x 6; omega, by have := adr_24 c x 7; omega⟩⟩
  have oown : ∀ b u, u < 8 → u ≠ 0 → u ≠ 6 → u ≠ 7 → nth (ringAddZ c t.h zs) (adr c b u) = nth zs (adr c b u) := fun b u hu a0 a6 a7 => out _ ⟨by have := adr_24 c b u; omega, by have := adr_24 c b u; omega, by have := adr_24 c b u; omega, fun e => a0 (adr_inj (by omega) (by omega) e).2, fun x _ => ⟨fun e => a6 (adr_inj (by omega) (by omega) e).2, fun e => a7 (adr_inj (by omega) (by omega) e).2⟩⟩
  have hlt := R.hlt (find_live hf).1
  have hmk : uG (nth zs (adr c t.h 0)) = 0 := R.ring.mk0 hlt hn
  have otag : ∀ b, b < c.N → uC (nth (ringAddZ c t.h zs) (adr c b 0)) = uC (nth zs (adr c b 0)) ∧ uN (nth (ringAddZ c t.h zs) (adr c b 0)) = uN (nth zs (adr c b 0)) ∧ uS (nth (ringAddZ c t.h zs) (adr c b 0)) = uS (nth zs (adr c b 0)) ∧ uD (nth (ringAddZ c t.h zs) (adr c b 0)) = uD (nth zs (adr c b 0)) := fun b hb => by
    rw [ringAdd_tag hm hz.len hb]
    by_cases e : b = t.h
    · subst e
      rw [if_pos rfl]
      unfold uG at hmk
      unfold uC uN uS uD
      omega
    · rw [if_neg e]
      exact ⟨rfl, rfl, rfl, rfl⟩
  refine R.frame hm K2 rfl rfl rfl rfl (fun u hu => ⟨u, hu, rfl, rfl, rfl, rfl⟩) (fun u hu => ?_) K1 (R.grave.same (fun j j1 j2 => oreg j (by omega) (by omega) (by omega) (by omega)) (fun b _ => oown b 5 (by omega) (by omega) (by omega) (by omega))) (by rw [oreg 6 (by omega) (by omega) (by omega) (by omega)]; exact R.r6) (fun j j1 j2 => by rw [oreg j (by omega) (by omega) (by omega) (by omega)]; exact R.reg j j1 j2) R.par R.gv (fun u hu hug => ?_)
  · have ho := R.own u hu
    obtain ⟨a1, a2, a3, a4⟩ := otag u.h (R.hlt hu)
    exact ⟨a1.trans ho.cC, a2.trans ho.cN, a3.trans ho.cS, a4.trans ho.cD, by rw [oown _ 3 (by omega) (by omega) (by omega) (by omega)]; exact ho.w3, by rw [oown _ 4 (by omega) (by omega) (by omega) (by omega)]; exact ho.w4⟩
  · obtain ⟨b1, b2, b3, b4⟩ := R.bur u hu hug
    have hne : u.h ≠ t.h := fun e => hg (e ▸ hug)
    have hx : ∀ v, v < 8 → v ≠ 0 → nth (ringAddZ c t.h zs) (adr c u.h v) = nth zs (adr c u.h v) := fun v hv hv0 => out _ ⟨by have := adr_24 c u.h v; omega, by have := adr_24 c u.h v; omega, by have := adr_24 c u.h v; omega, fun e => hv0 (adr_inj (by omega) (by omega) e).2, fun x hx => by
      have : u.h ≠ x := by
        rcases hx with rfl | hx
        · exact hne
        · exact fun e => b4 (e ▸ hx)
      exact ⟨fun e => this (adr_inj (by omega) (by omega) e).1, fun e => this (adr_inj (by omega) (by omega) e).1⟩⟩
    refine ⟨b1, by rw [hx 6 (by omega) (by omega)]; exact b2, by rw [hx 7 (by omega) (by omega)]; exact b3, fun hin => ?_⟩
    rcases List.mem_append.1 hin with hin | hin
    · exact b4 hin
    · exact hne (List.mem_singleton.1 hin)
end

/-! ### The bundle -/
set_option maxHeartbeats 1000000 in
theorem tf_does_begin : ∀ c D (ph : Int), Does c D 14 [.int .i64 ph] 32 (D.beginT ph) (.bool (phB ph)) := fun c D ph zs hz R => by
  cases h : phB ph with
  | true => exact ⟨_, ⟨5, by omega, fun p m w hG => tt_Begin_yes hG ph h⟩, by unfold Wd.beginT; rw [if_pos h]; exact tf_begin hz R ph⟩
  | false => exact ⟨zs, ⟨0, by omega, fun p m w hG => tt_Begin_no hG ph h⟩, by unfold Wd.beginT; rw [if_neg (by simp [h])]; exact R⟩
set_option maxHeartbeats 1000000 in
theorem tf_does_move : ∀ c D (x y : Int), Does c D 28 [.int .i64 x, .int .i64 y] 32 (D.moveT x y) (.bool (mvB x y)) := fun c D x y zs hz R => by
  cases h : mvB x y with
  | true => exact ⟨_, ⟨2, by omega, fun p m w hG => tt_Move_yes hG x y h⟩, by unfold Wd.moveT; rw [if_pos h]; exact tf_move hz R x y⟩
  | false => exact ⟨zs, ⟨0, by omega, fun p m w hG => tt_Move_no hG x y h⟩, by unfold Wd.moveT; rw [if_neg (by simp [h])]; exact R⟩
set_option maxHeartbeats 1000000 in
theorem tf_does_dye : ∀ c D (r : Int), In64 r → Does c D 16 [.int .i64 r] 32 (D.dye r) (.bool (D.find r).isSome) := fun c D r hr zs hz R => by
  cases hf : D.find r with
  | none => exact ⟨zs, ⟨_, by have := ask_le1 (wordA c (prev r) 0); omega, fun p m w hG => tt_Dye_no _ (R.reg 10 (by omega) (by omega)) hG R.heap hr (tf_none R hf)⟩, by rw [show D.dye r = D from mark_none _ hf]; exact R⟩
  | some t =>
    obtain ⟨h1, h2, h3, h4, h5⟩ := R.tagOf hf
    have K := tf_dye R hz hf
    subst h4
    refine ⟨_, ?_, K⟩
    exact ⟨5, by omega, fun p m w hG => tt_Dye_yes (s := ⟨zs, m⟩) (o := t.ob) _ (R.reg 10 (by omega) (by omega)) R.par hG R.heap h3 (nth zs (adr c t.h 0)) (ob_x zs t)⟩
set_option maxHeartbeats 1000000 in
theorem tf_does_black : ∀ c D (r : Int), In64 r → Does c D 20 [.int .i64 r] 32 D (.bool (D.black r)) := fun c D r hr zs hz R => by
  cases hf : D.find r with
  | none => exact ⟨zs, ⟨askN (wordA c (prev r) 0), by have := ask_le1 (wordA c (prev r) 0); omega, fun p m w hG => by rw [show D.black r = false by unfold Wd.black; rw [hf]]; exact tt_Black_no hG R.heap hr (tf_none R hf)⟩, R⟩
  | some t =>
    obtain ⟨h1, h2, h3, h4, h5⟩ := R.tagOf hf
    have e : D.black r = decide (uC (nth zs (adr c t.h 0)) = D.parity) := by unfold Wd.black; rw [hf, h5.cC]
    rw [e]
    subst h4
    exact ⟨zs, ⟨3, by omega, fun p m w hG => tt_Black_yes (s := ⟨zs, m⟩) (o := t.ob) hG R.heap h3 (nth zs (adr c t.h 0)) (ob_x zs t) D.parity (R.reg 10 (by omega) (by omega))⟩, R⟩
set_option maxHeartbeats 1000000 in
theorem tf_does_paint : ∀ c D (r : Int), In64 r → Does c D 29 [.int .i64 r] 32 (D.paint r) (.bool (D.find r).isSome) := fun c D r hr zs hz R => by
  cases hf : D.find r with
  | none => exact ⟨zs, ⟨_, by have := ask_le1 (wordA c (prev r) 0); omega, fun p m w hG => tt_Paint_no _ (R.reg 10 (by omega) (by omega)) hG R.heap hr (tf_none R hf)⟩, by rw [show D.paint r = D from mark_none _ hf]; exact R⟩
  | some t =>
    obtain ⟨h1, h2, h3, h4, h5⟩ := R.tagOf hf
    have K := tf_paint R hz hf
    subst h4
    refine ⟨_, ?_, K⟩
    exact ⟨4, by omega, fun p m w hG => tt_Paint_yes (s := ⟨zs, m⟩) (o := t.ob) _ (R.reg 10 (by omega) (by omega)) R.par hG R.heap h3 (nth zs (adr c t.h 0)) (ob_x zs t)⟩
set_option maxHeartbeats 1000000 in
theorem tf_does_touch : ∀ c D (r : Int), In64 r → Does c D 22 [.int .i64 r] 32 (D.touch r) (.bool (D.toucht r)) := fun c D r hr zs hz R => by
  have hP := R.reg 10 (by omega) (by omega)
  have hph := R.reg 11 (by omega) (by omega)
  by_cases h0 : D.phase = 0
  · have e : D.toucht r = false := by unfold Wd.toucht; cases D.find r <;> simp [h0]
    rw [touch_stay e, e]
    exact ⟨zs, ⟨1, by omega, fun p m w hG => tt_Touch_idle hG (hph.trans h0)⟩, R⟩
  cases hf : D.find r with
  | none =>
    have e : D.toucht r = false := by unfold Wd.toucht; rw [hf]
    rw [touch_stay e, e]
    exact ⟨zs, ⟨_, by have := ask_le1 (wordA c (prev r) 0); omega, fun p m w hG => tt_Touch_no _ hph h0 _ hP hG R.heap hr (tf_none R hf)⟩, R⟩
  | some t =>
    obtain ⟨h1, h2, h3, h4, h5⟩ := R.tagOf hf
    have et : D.toucht r = (!t.mr.dead && !decide (t.mr.color = D.parity)) := by unfold Wd.toucht; rw [hf]; simp [h0]
    cases hd : t.mr.dead with
    | true =>
      have e : D.toucht r = false := by rw [et, hd]; rfl
      rw [touch_stay e, e]
      subst h4
      exact ⟨zs, ⟨4, by omega, fun p m w hG => tt_Touch_dead (s := ⟨zs, m⟩) (o := t.ob) _ hph h0 _ hP hG R.heap h3 (nth zs (adr c t.h 0)) (ob_x zs t) (h5.dead1 hd)⟩, R⟩
    | false =>
      have hd0 := h5.dead0 hd
      by_cases hc : t.mr.color = D.parity
      · have e : D.toucht r = false := by rw [et, hd]; simp [hc]
        rw [touch_stay e, e]
        subst h4
        exact ⟨zs, ⟨4, by omega, fun p m w hG => tt_Touch_black (s := ⟨zs, m⟩) (o := t.ob) _ hph h0 _ hP hG R.heap h3 (nth zs (adr c t.h 0)) (ob_x zs t) hd0 (h5.cC.trans hc)⟩, R⟩
      · have e : D.toucht r = true := by rw [et, hd]; simp [hc]
        have hcn : ¬ uC (nth zs (adr c t.h 0)) = D.parity := by rw [h5.cC]; exact hc
        have K := tf_paint R hz hf
        have hlt := R.hlt (find_live hf).1
        have hmb : hasB (ints D.ring) (r - 1) = decide (t.h ∈ D.ring) := by
          rw [show r - 1 = ((t.h : Nat) : Int) by omega, hasB_mem]
        by_cases hin : t.h ∈ D.ring
        · have eD : D.touch r = D.paint r := by
            unfold Wd.touch
            rw [e, hmb, if_pos rfl, if_pos (by simp [hin])]
            rfl
          rw [eD, e]
          subst h4
          refine ⟨_, ?_, K⟩
          exact ⟨6, by omega, fun p m w hG => tt_Touch_in (s := ⟨zs, m⟩) (o := t.ob) _ hph h0 _ hP R.par hG R.heap h3 (nth zs (adr c t.h 0)) (ob_x zs t) hd0 hcn D.ring K.ring hin⟩
        · have eD : D.touch r = { D.paint r with ring := (D.paint r).ring ++ [t.h] } := by
            unfold Wd.touch
            rw [e, hmb, if_pos rfl, if_neg (by simp [hin]), show (r - 1).toNat = t.h by omega]
            rfl
          have hng : t.h + 1 ∉ D.grave := fun hg => by
            have := (R.bur t (find_live hf).1 hg).1
            rw [hd] at this
            cases this
          have hz1 : Wz c (zs.set (adr c t.h 0) (nTag (nth zs (adr c t.h 0)) D.parity (uN (nth zs (adr c t.h 0))) (uS (nth zs (adr c t.h 0))) (uD (nth zs (adr c t.h 0))))) := by
            have hok := nTag_ok h1 h2 R.par (Tag01 (nth zs (adr c t.h 0))).2.1 (Tag01 (nth zs (adr c t.h 0))).2.2.1 (Tag01 (nth zs (adr c t.h 0))).2.2.2
            exact hz.set _ hok.2.2.2.2.2.2.2.1 hok.2.2.2.2.2.2.2.2
          have K2 := tf_ringAdd K hz1 (mark_find _ hf) hin hng
          rw [eD, e]
          subst h4
          refine ⟨_, ?_, K2⟩
          exact ⟨14, by omega, fun p m w hG => tt_Touch_new (s := ⟨zs, m⟩) (o := t.ob) _ hph h0 _ hP R.par hG R.heap h3 (nth zs (adr c t.h 0)) (ob_x zs t) hd0 hcn D.ring K.ring hin⟩
set_option maxHeartbeats 1000000 in
theorem tf_does_dead : ∀ c D (r : Int), In64 r → Does c D 30 [.int .i64 r] 32 D (.bool (D.dead r)) := fun c D r hr zs hz R => by
  cases hf : D.find r with
  | none => exact ⟨zs, ⟨askN (wordA c (prev r) 0), by have := ask_le1 (wordA c (prev r) 0); omega, fun p m w hG => by rw [show D.dead r = false by unfold Wd.dead; rw [hf]]; exact tt_Dead_no hG R.heap hr (tf_none R hf)⟩, R⟩
  | some t =>
    obtain ⟨h1, h2, h3, h4, h5⟩ := R.tagOf hf
    have e : D.dead r = decide (uD (nth zs (adr c t.h 0)) = 1) := by unfold Wd.dead; rw [hf, h5.deadB]
    rw [e]
    subst h4
    exact ⟨zs, ⟨2, by omega, fun p m w hG => tt_Dead_yes (s := ⟨zs, m⟩) (o := t.ob) hG R.heap h3 (nth zs (adr c t.h 0)) (ob_x zs t)⟩, R⟩
set_option maxHeartbeats 1000000 in
theorem tf_does_kill : ∀ c D (r : Int), In64 r → Does c D 31 [.int .i64 r] 32 (D.kill r) (.bool ((D.find r).isSome && !D.dead r)) := fun c D r hr zs hz R => by
  cases hf : D.find r with
  | none => exact ⟨zs, ⟨_, by have := ask_le1 (wordA c (prev r) 0); omega, fun p m w hG => tt_Kill_no hG R.heap hr (tf_none R hf)⟩, by rw [show D.kill r = D from mark_none _ hf]; exact R⟩
  | some t =>
    obtain ⟨h1, h2, h3, h4, h5⟩ := R.tagOf hf
    have e : D.dead r = t.mr.dead := by unfold Wd.dead; rw [hf]
    rw [e]
    cases hd : t.mr.dead with
    | false =>
      have K := tf_kill R hz hf
      subst h4
      refine ⟨_, ?_, K⟩
      exact ⟨3, by omega, fun p m w hG => tt_Kill_yes (s := ⟨zs, m⟩) (o := t.ob) hG R.heap h3 (nth zs (adr c t.h 0)) (ob_x zs t) (h5.dead0 hd)⟩
    | true =>
      have eD : D.kill r = D := by
        obtain ⟨i, hi, ht⟩ := find_some hf
        unfold Wd.kill Wd.mark Wd.upd
        rw [upd_ix hi ht, show ({ t with mr := { t.mr with dead := true } } : Th) = t by rw [← hd], set_self_get ht]
      rw [eD]
      subst h4
      exact ⟨zs, ⟨2, by omega, fun p m w hG => tt_Kill_dead (s := ⟨zs, m⟩) (o := t.ob) hG R.heap h3 (nth zs (adr c t.h 0)) (ob_x zs t) (h5.dead1 hd)⟩, R⟩
set_option maxHeartbeats 1000000 in
theorem tf_does_shadow : ∀ c D (r : Int), In64 r → Does c D 21 [.int .i64 r] 32 D (.int .i64 (D.shd r)) := fun c D r hr zs hz R => by
  cases hf : D.find r with
  | none => exact ⟨zs, ⟨askN (wordA c (prev r) 0), by have := ask_le1 (wordA c (prev r) 0); omega, fun p m w hG => by rw [show D.shd r = 0 by unfold Wd.shd; rw [hf]]; exact tt_Shadow_no hG R.heap hr (tf_none R hf)⟩, R⟩
  | some t =>
    obtain ⟨h1, h2, h3, h4, h5⟩ := R.tagOf hf
    obtain ⟨k, hk, _, _, h⟩ := tf_shadow R hz hf
    subst h4
    exact ⟨zs, ⟨k, by omega, fun p m w hG => h p w m hG⟩, R⟩
set_option maxHeartbeats 1000000 in
theorem tf_does_deepen : ∀ c D (r : Int), In64 r → D.shd r < 4294967295 → Does c D 18 [.int .i64 r] 32 (D.deepen r) (.bool (D.find r).isSome) := fun c D r hr hs zs hz R => by
  cases hf : D.find r with
  | none => exact ⟨zs, ⟨_, by have := ask_le1 (wordA c (prev r) 0); omega, fun p m w hG => tt_Deepen_no _ (R.reg 10 (by omega) (by omega)) hG R.heap hr (tf_none R hf)⟩, by rw [show D.deepen r = D from mark_none _ hf]; exact R⟩
  | some t =>
    obtain ⟨h1, h2, h3, h4, h5⟩ := R.tagOf hf
    obtain ⟨k, hk, n0, n1, h⟩ := tf_shadow R hz hf
    have K := tf_deepen R hz hf
    subst h4
    refine ⟨_, ?_, K⟩
    exact ⟨k + 5, by omega, fun p m w hG => tt_Deepen_yes (s := ⟨zs, m⟩) (o := t.ob) _ (R.reg 10 (by omega) (by omega)) R.par hG R.heap h3 (nth zs (adr c t.h 0)) (ob_x zs t) _ k (fun w' m' hG' => h p w' m' hG') n0 hs⟩
set_option maxHeartbeats 1000000 in
theorem tf_does_lighten : ∀ c D (r : Int), In64 r → Does c D 25 [.int .i64 r] 32 (D.lighten r) (.bool (D.lighter r)) := fun c D r hr zs hz R => by
  have hP := R.reg 10 (by omega) (by omega)
  have hph := R.reg 11 (by omega) (by omega)
  by_cases h12 : D.phase = 1 ∨ D.phase = 2
  · have h12b : (decide (D.phase = 1) || decide (D.phase = 2)) = true := by simpa using h12
    cases hf : D.find r with
    | none =>
      have e : D.lighter r = false := by unfold Wd.lighter Wd.shd; rw [hf]; simp
      rw [lighten_stay e, e]
      exact ⟨zs, ⟨_, by have := ask_le1 (wordA c (prev r) 0); omega, fun p m w hG => tt_Lighten_no _ hph h12 hG R.heap hr (tf_none R hf)⟩, R⟩
    | some t =>
      obtain ⟨h1, h2, h3, h4, h5⟩ := R.tagOf hf
      have eb : D.black r = decide (t.mr.color = D.parity) := by unfold Wd.black; rw [hf]
      by_cases hc : t.mr.color = D.parity
      · have e : D.lighter r = false := by unfold Wd.lighter; rw [eb]; simp [hc]
        rw [lighten_stay e, e]
        subst h4
        exact ⟨zs, ⟨4, by omega, fun p m w hG => tt_Lighten_black (s := ⟨zs, m⟩) (o := t.ob) _ hph h12 hG R.heap h3 (nth zs (adr c t.h 0)) (ob_x zs t) _ hP (h5.cC.trans hc)⟩, R⟩
      · have hcn : ¬ uC (nth zs (adr c t.h 0)) = D.parity := by rw [h5.cC]; exact hc
        obtain ⟨k, hk, n0, n1, h⟩ := tf_shadow R hz hf
        by_cases hs : D.shd r = 0
        · have e : D.lighter r = false := by unfold Wd.lighter; rw [hs]; simp
          rw [lighten_stay e, e]
          subst h4
          exact ⟨zs, ⟨4 + k, by omega, fun p m w hG => tt_Lighten_none (s := ⟨zs, m⟩) (o := t.ob) _ hph h12 hG R.heap h3 (nth zs (adr c t.h 0)) (ob_x zs t) _ hP hcn _ k (fun w' m' hG' => h p w' m' hG') hs⟩, R⟩
        · have e : D.lighter r = true := by unfold Wd.lighter; rw [eb, h12b]; simp [hc, hs]
          have K := tf_lighten R hz hf hs
          rw [show D.lighten r = D.mark r (fun m => { m with shadow := m.shadow - 1 }) by unfold Wd.lighten; rw [if_pos e], e]
          subst h4
          refine ⟨_, ?_, K⟩
          exact ⟨5 + k, by omega, fun p m w hG => tt_Lighten_yes (s := ⟨zs, m⟩) (o := t.ob) _ hph h12 hG R.heap h3 (nth zs (adr c t.h 0)) (ob_x zs t) _ hP hcn _ k (fun w' m' hG' => h p w' m' hG') (by omega) n1⟩
  · have e : D.lighter r = false := by unfold Wd.lighter; rw [show (decide (D.phase = 1) || decide (D.phase = 2)) = false by simpa using h12]; rfl
    rw [lighten_stay e, e]
    exact ⟨zs, ⟨1, by omega, fun p m w hG => tt_Lighten_idle _ hG hph (fun q => h12 (.inl q)) (fun q => h12 (.inr q))⟩, R⟩
set_option maxHeartbeats 1000000 in
theorem tf_does_counted : ∀ c D (r i : Int), In64 r → Does c D 17 [.int .i64 r, .int .i64 i] 32 D (.bool (D.counted r i)) := fun c D r i hr zs hz R => by
  have hP := R.reg 10 (by omega) (by omega)
  cases hf : D.find r with
  | none =>
    rw [show D.counted r i = false by unfold Wd.counted; rw [hf]]
    exact ⟨zs, ⟨_, by have := ask_le1 (wordA c (prev r) 0); omega, fun p m w hG => tt_Counted_no _ hG R.heap hr (tf_none R hf)⟩, R⟩
  | some t =>
    obtain ⟨h1, h2, h3, h4, h5⟩ := R.tagOf hf
    have e : D.counted r i = (decide (0 ≤ i) && (decide (t.mr.count = D.parity) || (decide (D.phase = 1) && decide (D.cursor = r - 1) && decide (i < D.field)))) := by unfold Wd.counted; rw [hf]
    by_cases hi : i < 0
    · rw [show D.counted r i = false by rw [e, show decide (0 ≤ i) = false from decide_eq_false (by omega)]; rfl]
      subst h4
      exact ⟨zs, ⟨2, by omega, fun p m w hG => tt_Counted_neg (s := ⟨zs, m⟩) (o := t.ob) _ hG R.heap h3 (nth zs (adr c t.h 0)) (ob_x zs t) hi⟩, R⟩
    · have hi' : decide (0 ≤ i) = true := decide_eq_true (by omega)
      by_cases hn : t.mr.count = D.parity
      · rw [show D.counted r i = true by rw [e, hi', decide_eq_true hn]; rfl]
        subst h4
        exact ⟨zs, ⟨3, by omega, fun p m w hG => tt_Counted_yes (s := ⟨zs, m⟩) (o := t.ob) _ hG R.heap h3 (nth zs (adr c t.h 0)) (ob_x zs t) _ hP hi (h5.cN.trans hn)⟩, R⟩
      · have hnn : ¬ uN (nth zs (adr c t.h 0)) = D.parity := by rw [h5.cN]; exact hn
        have e2 : D.counted r i = (decide (D.phase = 1) && decide (D.cursor = r - 1) && decide (i < D.field)) := by rw [e, hi', decide_eq_false hn]; simp
        have hph := R.reg 11 (by omega) (by omega)
        have hcu := R.reg 12 (by omega) (by omega)
        have hfi := R.reg 13 (by omega) (by omega)
        by_cases hp1 : D.phase = 1
        · by_cases hc1 : D.cursor = (t.h : Int)
          · rw [show D.counted r i = decide (i < D.field) by rw [e2, decide_eq_true hp1, decide_eq_true (show D.cursor = r - 1 by omega)]; simp]
            subst h4
            exact ⟨zs, ⟨6, by omega, fun p m w hG => tt_Counted_in (s := ⟨zs, m⟩) (o := t.ob) _ hG R.heap h3 (nth zs (adr c t.h 0)) (ob_x zs t) _ hP hi hnn _ _ _ hph hcu hfi hp1 hc1⟩, R⟩
          · rw [show D.counted r i = false by rw [e2, decide_eq_false (show ¬ D.cursor = r - 1 by omega)]; simp]
            subst h4
            exact ⟨zs, ⟨6, by omega, fun p m w hG => tt_Counted_at (s := ⟨zs, m⟩) (o := t.ob) _ hG R.heap h3 (nth zs (adr c t.h 0)) (ob_x zs t) _ hP hi hnn _ _ _ hph hcu hfi hp1 hc1⟩, R⟩
        · rw [show D.counted r i = false by rw [e2, decide_eq_false hp1]; simp]
          subst h4
          exact ⟨zs, ⟨6, by omega, fun p m w hG => tt_Counted_ph (s := ⟨zs, m⟩) (o := t.ob) _ hG R.heap h3 (nth zs (adr c t.h 0)) (ob_x zs t) _ hP hi hnn _ _ _ hph hcu hfi hp1⟩, R⟩
set_option maxHeartbeats 1000000 in
theorem tf_does_done : ∀ c D (r : Int), In64 r → Does c D 32 [.int .i64 r] 32 (D.done r) (.bool (D.find r).isSome) := fun c D r hr zs hz R => by
  cases hf : D.find r with
  | none => exact ⟨zs, ⟨_, by have := ask_le1 (wordA c (prev r) 0); omega, fun p m w hG => tt_Done_no _ (R.reg 10 (by omega) (by omega)) hG R.heap hr (tf_none R hf)⟩, by rw [show D.done r = D from mark_none _ hf]; exact R⟩
  | some t =>
    obtain ⟨h1, h2, h3, h4, h5⟩ := R.tagOf hf
    have K := tf_done R hz hf
    subst h4
    refine ⟨_, ?_, K⟩
    exact ⟨4, by omega, fun p m w hG => tt_Done_yes (s := ⟨zs, m⟩) (o := t.ob) _ (R.reg 10 (by omega) (by omega)) R.par hG R.heap h3 (nth zs (adr c t.h 0)) (ob_x zs t)⟩
theorem tintFns : TintFns where
  parity := fun c D zs hz R => ⟨zs, ⟨1, by omega, fun p m w hG => tt_Parity hG _ (R.reg 10 (by omega) (by omega))⟩, R⟩
  phase := fun c D zs hz R => ⟨zs, ⟨1, by omega, fun p m w hG => tt_Phase hG _ (R.reg 11 (by omega) (by omega))⟩, R⟩
  turn := fun c D => ⟨_, fun zs hz R => ⟨_, ⟨2, by omega, fun p m w hG => tt_Turn hG _ (R.reg 10 (by omega) (by omega)) R.par⟩, tf_turn hz R⟩⟩
  begin_ := tf_does_begin
  at_ := fun c D zs hz R => ⟨zs, ⟨2, by omega, fun p m w hG => tt_At hG _ _ (R.reg 12 (by omega) (by omega)) (R.reg 13 (by omega) (by omega))⟩, R⟩
  move := tf_does_move
  dye := tf_does_dye
  black := tf_does_black
  paint := tf_does_paint
  touch := tf_does_touch
  dead := tf_does_dead
  kill := tf_does_kill
  shadow := tf_does_shadow
  deepen := tf_does_deepen
  lighten := tf_does_lighten
  counted := tf_does_counted
  done := tf_does_done
end Go.Proofs.YtmcgplblbdjaiaaGreat.Pk

/-
  Package tint of a nil ground.
-/
namespace Go.Proofs.YtmcgplblbdjaiaaGreat.Pk
open Go.RowKit
set_option linter.unusedVariables false
set_option linter.unusedSimpArgs false
set_option maxRecDepth 100000

theorem tn_Parity (w : World) : Calls Tryz.prog 19 #[.pointer none] w fun e w' => e = .returned (.int .i64 0) ∧ Below w.heap.size w w' := by
  have hmf : ∀ (fn : Fn) (first cap : Array Value) (w : World), (Instr.makeFunc fn first cap).run Tryz.prog w = .ok (.func fn first cap) w := fun _ _ _ _ => rfl
  have HB0 : Hid (Below w.heap.size w w) := Lib.hid (Below.refl _ _)
  go_enter Tryz.func19, Tryz.ntmps19
  go_wp2_with fail
  refine (reg_nil _ _).mono ?_
  rintro e v ⟨rfl, rfl⟩
  go_wp2_with fail
  go_ret
  exact ⟨rfl, HB0.out⟩
theorem tn_Phase (w : World) : Calls Tryz.prog 27 #[.pointer none] w fun e w' => e = .returned (.int .i64 0) ∧ Below w.heap.size w w' := by
  have hmf : ∀ (fn : Fn) (first cap : Array Value) (w : World), (Instr.makeFunc fn first cap).run Tryz.prog w = .ok (.func fn first cap) w := fun _ _ _ _ => rfl
  have HB0 : Hid (Below w.heap.size w w) := Lib.hid (Below.refl _ _)
  go_enter Tryz.func27, Tryz.ntmps27
  go_wp2_with fail
  refine (reg_nil _ _).mono ?_
  rintro e v ⟨rfl, rfl⟩
  go_wp2_with fail
  go_ret
  exact ⟨rfl, HB0.out⟩
theorem tn_Turn (w : World) : Calls Tryz.prog 13 #[.pointer none] w fun e w' => e = .returned (.tuple #[]) ∧ Below w.heap.size w w' := by
  have hmf : ∀ (fn : Fn) (first cap : Array Value) (w : World), (Instr.makeFunc fn first cap).run Tryz.prog w = .ok (.func fn first cap) w := fun _ _ _ _ => rfl
  have HB0 : Hid (Below w.heap.size w w) := Lib.hid (Below.refl _ _)
  go_enter Tryz.func13, Tryz.ntmps13
  go_wp2_with fail
  refine (tn_Parity _).mono ?_
  rintro e v1 ⟨rfl, hb⟩
  have HB1 := Lib.hid (below_step HB0.out hb)
  clear hb
  go_wp2_with fail
  refine (setreg_nil _ _ _).mono ?_
  rintro e v ⟨rfl, rfl⟩
  go_wp2_with fail
  go_end0
  exact ⟨rfl, HB1.out⟩
theorem tn_At (w : World) : Calls Tryz.prog 26 #[.pointer none] w fun e w' => e = .returned (.tuple #[.int .i64 0, .int .i64 0]) ∧ Below w.heap.size w w' := by
  have hmf : ∀ (fn : Fn) (first cap : Array Value) (w : World), (Instr.makeFunc fn first cap).run Tryz.prog w = .ok (.func fn first cap) w := fun _ _ _ _ => rfl
  have HB0 : Hid (Below w.heap.size w w) := Lib.hid (Below.refl _ _)
  go_enter Tryz.func26, Tryz.ntmps26
  go_wp2_with fail
  refine (reg_nil _ _).mono ?_
  rintro e v ⟨rfl, rfl⟩
  go_wp2_with fail
  refine (reg_nil _ _).mono ?_
  rintro e v ⟨rfl, rfl⟩
  go_wp2_with fail
  go_ret2
  exact ⟨rfl, HB0.out⟩
theorem tn_Begin (i : Int) (w : World) : Calls Tryz.prog 14 #[.pointer none, .int .i64 i] w fun e w' => e = .returned (.bool false) ∧ Below w.heap.size w w' := by
  have hmf : ∀ (fn : Fn) (first cap : Array Value) (w : World), (Instr.makeFunc fn first cap).run Tryz.prog w = .ok (.func fn first cap) w := fun _ _ _ _ => rfl
  have HB0 : Hid (Below w.heap.size w w) := Lib.hid (Below.refl _ _)
  by_cases h0 : i < 0
  · go_enter Tryz.func14, Tryz.ntmps14
    go_wp2_with fail
    go_ret
    exact ⟨rfl, HB0.out⟩
  by_cases h3 : 3 < i
  · go_enter Tryz.func14, Tryz.ntmps14
    go_wp2_with fail
    go_ret
    exact ⟨rfl, HB0.out⟩
  · go_enter Tryz.func14, Tryz.ntmps14
    go_wp2_with fail
    refine (setreg_nil _ _ _).mono ?_
    rintro e v ⟨rfl, rfl⟩
    go_wp2_with fail
    go_ret
    exact ⟨rfl, HB0.out⟩
theorem tn_Move (r : Int) (i : Int) (w : World) : Calls Tryz.prog 28 #[.pointer none, .int .i64 r, .int .i64 i] w fun e w' => e = .returned (.bool false) ∧ Below w.heap.size w w' := by
  have hmf : ∀ (fn : Fn) (first cap : Array Value) (w : World), (Instr.makeFunc fn first cap).run Tryz.prog w = .ok (.func fn first cap) w := fun _ _ _ _ => rfl
  have HB0 : Hid (Below w.heap.size w w) := Lib.hid (Below.refl _ _)
  by_cases h0 : 0 ≤ r ∧ r ≤ 4294967295
  · have H0 : Hid (decide (0 ≤ r ∧ r ≤ 4294967295) = true) := Lib.hid (decide_eq_true h0)
    by_cases h1 : 0 ≤ i ∧ i ≤ 4294967295
    · have H1 : Hid (decide (0 ≤ i ∧ i ≤ 4294967295) = true) := Lib.hid (decide_eq_true h1)
      clear h0 h1
      go_enter Tryz.func28, Tryz.ntmps28
      go_wp2_with fail
      refine (tt_fits r _).mono ?_
      rw [H0.out]
      rintro e v ⟨rfl, rfl⟩
      go_wp2_with fail
      refine (tt_fits i _).mono ?_
      rw [H1.out]
      rintro e v ⟨rfl, rfl⟩
      go_wp2_with fail
      refine (setreg_nil _ _ _).mono ?_
      rintro e v ⟨rfl, rfl⟩
      go_wp2_with fail
      go_ret
      exact ⟨rfl, HB0.out⟩
    · have H1 : Hid (decide (0 ≤ i ∧ i ≤ 4294967295) = false) := Lib.hid (decide_eq_false h1)
      clear h0 h1
      go_enter Tryz.func28, Tryz.ntmps28
      go_wp2_with fail
      refine (tt_fits r _).mono ?_
      rw [H0.out]
      rintro e v ⟨rfl, rfl⟩
      go_wp2_with fail
      refine (tt_fits i _).mono ?_
      rw [H1.out]
      rintro e v ⟨rfl, rfl⟩
      go_wp2_with fail
      go_ret
      exact ⟨rfl, HB0.out⟩
  · have H0 : Hid (decide (0 ≤ r ∧ r ≤ 4294967295) = false) := Lib.hid (decide_eq_false h0)
    clear h0
    go_enter Tryz.func28, Tryz.ntmps28
    go_wp2_with fail
    refine (tt_fits r _).mono ?_
    rw [H0.out]
    rintro e v ⟨rfl, rfl⟩
    go_wp2_with fail
    go_ret
    exact ⟨rfl, HB0.out⟩
theorem tn_tagOf (r : Int) (w : World) : Calls Tryz.prog 65 #[.pointer none, .int .i64 r] w fun e w' => e = .returned (.tuple #[.agg #[.int .i64 0, .int .i64 0, .int .i64 0, .int .i64 0, .int .i64 0, .int .i64 0, .int .i64 0], .bool false]) ∧ Below w.heap.size w w' := by
  have BR := Lib.hid (Blk.new w #[.int .i64 0, .int .i64 0, .int .i64 0, .int .i64 0, .int .i64 0, .int .i64 0, .int .i64 0] 82)
  have HB0 := Lib.hid (below_new w (.cells #[.int .i64 0, .int .i64 0, .int .i64 0, .int .i64 0, .int .i64 0, .int .i64 0, .int .i64 0] 82))
  go_enter Tryz.func65, Tryz.ntmps65
  go_wp2_with fail
  refine (is_nil r _).mono ?_
  rintro e v1 ⟨rfl, hb⟩
  have HB1 := Lib.hid (below_step HB0.out hb)
  have BR1 := Lib.hid (BR.out.later hb)
  clear hb
  have f0 := BR1.out.free 0
  have r0 := BR1.out.cell 0 rfl
  have f1 := BR1.out.free 1
  have r1 := BR1.out.cell 1 rfl
  have f2 := BR1.out.free 2
  have r2 := BR1.out.cell 2 rfl
  have f3 := BR1.out.free 3
  have r3 := BR1.out.cell 3 rfl
  have f4 := BR1.out.free 4
  have r4 := BR1.out.cell 4 rfl
  have f5 := BR1.out.free 5
  have r5 := BR1.out.cell 5 rfl
  have f6 := BR1.out.free 6
  have r6 := BR1.out.cell 6 rfl
  go_wp2_with fail
  exact bodyPost_ret (v := .tuple #[.agg #[.int .i64 0, .int .i64 0, .int .i64 0, .int .i64 0, .int .i64 0, .int .i64 0, .int .i64 0], .bool false]) (by simp [results, Tryz.results65, go_sem, r0, r1, r2, r3, r4, r5, r6]) rfl ⟨rfl, by
    repeat refine Below.setCell ?_ (by simp) _
    exact HB1.out⟩
theorem tn_change (r : Int) (V : Value) (w : World) : Calls Tryz.prog 62 #[.pointer none, .int .i64 r, V] w fun e w' => e = .returned (.bool false) ∧ Below w.heap.size w w' := by
  have hmf : ∀ (fn : Fn) (first cap : Array Value) (w : World), (Instr.makeFunc fn first cap).run Tryz.prog w = .ok (.func fn first cap) w := fun _ _ _ _ => rfl
  have HB0 : Hid (Below w.heap.size w w) := Lib.hid (Below.refl _ _)
  go_enter Tryz.func62, Tryz.ntmps62
  go_wp2_with fail
  refine (is_nil r _).mono ?_
  rintro e v1 ⟨rfl, hb⟩
  have HB1 := Lib.hid (below_step HB0.out hb)
  clear hb
  go_wp2_with fail
  go_ret
  exact ⟨rfl, HB1.out⟩
theorem tn_Dead (r : Int) (w : World) : Calls Tryz.prog 30 #[.pointer none, .int .i64 r] w fun e w' => e = .returned (.bool false) ∧ Below w.heap.size w w' := by
  have hmf : ∀ (fn : Fn) (first cap : Array Value) (w : World), (Instr.makeFunc fn first cap).run Tryz.prog w = .ok (.func fn first cap) w := fun _ _ _ _ => rfl
  have HB0 : Hid (Below w.heap.size w w) := Lib.hid (Below.refl _ _)
  go_enter Tryz.func30, Tryz.ntmps30
  go_wp2_with fail
  refine (tn_tagOf r _).mono ?_
  rintro e v1 ⟨rfl, hb⟩
  have HB1 := Lib.hid (below_step HB0.out hb)
  clear hb
  have HB2 := Lib.hid (HB1.out.alloc HB1.out.size (.cells #[.int .i64 0, .int .i64 0, .int .i64 0, .int .i64 0, .int .i64 0, .int .i64 0, .int .i64 0] 82))
  go_wp2_with fail
  go_ret
  exact ⟨rfl, HB2.out⟩
theorem tn_Black (r : Int) (w : World) : Calls Tryz.prog 20 #[.pointer none, .int .i64 r] w fun e w' => e = .returned (.bool false) ∧ Below w.heap.size w w' := by
  have hmf : ∀ (fn : Fn) (first cap : Array Value) (w : World), (Instr.makeFunc fn first cap).run Tryz.prog w = .ok (.func fn first cap) w := fun _ _ _ _ => rfl
  have HB0 : Hid (Below w.heap.size w w) := Lib.hid (Below.refl _ _)
  go_enter Tryz.func20, Tryz.ntmps20
  go_wp2_with fail
  refine (tn_tagOf r _).mono ?_
  rintro e v1 ⟨rfl, hb⟩
  have HB1 := Lib.hid (below_step HB0.out hb)
  clear hb
  have HB2 := Lib.hid (HB1.out.alloc HB1.out.size (.cells #[.int .i64 0, .int .i64 0, .int .i64 0, .int .i64 0, .int .i64 0, .int .i64 0, .int .i64 0] 82))
  go_wp2_with fail
  go_quiet (fail)
  go_wp2_with fail
  go_ret
  exact ⟨rfl, HB2.out.trans ⟨rfl, rfl, rfl, Nat.le_refl _, fun _ _ => rfl⟩⟩
theorem tn_Shadow (r : Int) (w : World) : Calls Tryz.prog 21 #[.pointer none, .int .i64 r] w fun e w' => e = .returned (.int .i64 0) ∧ Below w.heap.size w w' := by
  have hmf : ∀ (fn : Fn) (first cap : Array Value) (w : World), (Instr.makeFunc fn first cap).run Tryz.prog w = .ok (.func fn first cap) w := fun _ _ _ _ => rfl
  have HB0 : Hid (Below w.heap.size w w) := Lib.hid (Below.refl _ _)
  go_enter Tryz.func21, Tryz.ntmps21
  go_wp2_with fail
  refine (tn_tagOf r _).mono ?_
  rintro e v1 ⟨rfl, hb⟩
  have HB1 := Lib.hid (below_step HB0.out hb)
  clear hb
  have HB2 := Lib.hid (HB1.out.alloc HB1.out.size (.cells #[.int .i64 0, .int .i64 0, .int .i64 0, .int .i64 0, .int .i64 0, .int .i64 0, .int .i64 0] 82))
  go_wp2_with fail
  go_quiet (fail)
  go_wp2_with fail
  go_ret
  exact ⟨rfl, HB2.out.trans ⟨rfl, rfl, rfl, Nat.le_refl _, fun _ _ => rfl⟩⟩
theorem tn_Counted (r : Int) (i : Int) (w : World) : Calls Tryz.prog 17 #[.pointer none, .int .i64 r, .int .i64 i] w fun e w' => e = .returned (.bool false) ∧ Below w.heap.size w w' := by
  have hmf : ∀ (fn : Fn) (first cap : Array Value) (w : World), (Instr.makeFunc fn first cap).run Tryz.prog w = .ok (.func fn first cap) w := fun _ _ _ _ => rfl
  have HB0 : Hid (Below w.heap.size w w) := Lib.hid (Below.refl _ _)
  go_enter Tryz.func17, Tryz.ntmps17
  go_wp2_with fail
  refine (tn_tagOf r _).mono ?_
  rintro e v1 ⟨rfl, hb⟩
  have HB1 := Lib.hid (below_step HB0.out hb)
  clear hb
  have HB2 := Lib.hid (HB1.out.alloc HB1.out.size (.cells #[.int .i64 0, .int .i64 0, .int .i64 0, .int .i64 0, .int .i64 0, .int .i64 0, .int .i64 0] 82))
  go_wp2_with fail
  go_ret
  exact ⟨rfl, HB2.out⟩
theorem tn_Dye (r : Int) (w : World) : Calls Tryz.prog 16 #[.pointer none, .int .i64 r] w fun e w' => e = .returned (.bool false) ∧ Below w.heap.size w w' := by
  have hmf : ∀ (fn : Fn) (first cap : Array Value) (w : World), (Instr.makeFunc fn first cap).run Tryz.prog w = .ok (.func fn first cap) w := fun _ _ _ _ => rfl
  have HB0 : Hid (Below w.heap.size w w) := Lib.hid (Below.refl _ _)
  go_enter Tryz.func16, Tryz.ntmps16
  go_wp2_with fail
  refine (tn_Parity _).mono ?_
  rintro e v1 ⟨rfl, hb⟩
  have HB1 := Lib.hid (below_step HB0.out hb)
  clear hb
  have HB2 := Lib.hid (HB1.out.alloc HB1.out.size (.cells #[.int .i64 0] 3))
  go_wp2_with fail
  refine (tn_change r _ _).mono ?_
  rintro e v3 ⟨rfl, hb⟩
  have HB3 := Lib.hid (below_step HB2.out hb)
  clear hb
  go_wp2_with fail
  go_ret
  exact ⟨rfl, HB3.out⟩
theorem tn_Paint (r : Int) (w : World) : Calls Tryz.prog 29 #[.pointer none, .int .i64 r] w fun e w' => e = .returned (.bool false) ∧ Below w.heap.size w w' := by
  have hmf : ∀ (fn : Fn) (first cap : Array Value) (w : World), (Instr.makeFunc fn first cap).run Tryz.prog w = .ok (.func fn first cap) w := fun _ _ _ _ => rfl
  have HB0 : Hid (Below w.heap.size w w) := Lib.hid (Below.refl _ _)
  go_enter Tryz.func29, Tryz.ntmps29
  go_wp2_with fail
  refine (tn_Parity _).mono ?_
  rintro e v1 ⟨rfl, hb⟩
  have HB1 := Lib.hid (below_step HB0.out hb)
  clear hb
  have HB2 := Lib.hid (HB1.out.alloc HB1.out.size (.cells #[.int .i64 0] 3))
  go_wp2_with fail
  refine (tn_change r _ _).mono ?_
  rintro e v3 ⟨rfl, hb⟩
  have HB3 := Lib.hid (below_step HB2.out hb)
  clear hb
  go_wp2_with fail
  go_ret
  exact ⟨rfl, HB3.out⟩
theorem tn_Done (r : Int) (w : World) : Calls Tryz.prog 32 #[.pointer none, .int .i64 r] w fun e w' => e = .returned (.bool false) ∧ Below w.heap.size w w' := by
  have hmf : ∀ (fn : Fn) (first cap : Array Value) (w : World), (Instr.makeFunc fn first cap).run Tryz.prog w = .ok (.func fn first cap) w := fun _ _ _ _ => rfl
  have HB0 : Hid (Below w.heap.size w w) := Lib.hid (Below.refl _ _)
  go_enter Tryz.func32, Tryz.ntmps32
  go_wp2_with fail
  refine (tn_Parity _).mono ?_
  rintro e v1 ⟨rfl, hb⟩
  have HB1 := Lib.hid (below_step HB0.out hb)
  clear hb
  have HB2 := Lib.hid (HB1.out.alloc HB1.out.size (.cells #[.int .i64 0] 3))
  go_wp2_with fail
  refine (tn_change r _ _).mono ?_
  rintro e v3 ⟨rfl, hb⟩
  have HB3 := Lib.hid (below_step HB2.out hb)
  clear hb
  go_wp2_with fail
  go_ret
  exact ⟨rfl, HB3.out⟩
theorem tn_Kill (r : Int) (w : World) : Calls Tryz.prog 31 #[.pointer none, .int .i64 r] w fun e w' => e = .returned (.bool false) ∧ Below w.heap.size w w' := by
  have hmf : ∀ (fn : Fn) (first cap : Array Value) (w : World), (Instr.makeFunc fn first cap).run Tryz.prog w = .ok (.func fn first cap) w := fun _ _ _ _ => rfl
  have HB0 : Hid (Below w.heap.size w w) := Lib.hid (Below.refl _ _)
  go_enter Tryz.func31, Tryz.ntmps31
  go_wp2_with fail
  refine (tn_change r _ _).mono ?_
  rintro e v1 ⟨rfl, hb⟩
  have HB1 := Lib.hid (below_step HB0.out hb)
  clear hb
  go_wp2_with fail
  go_ret
  exact ⟨rfl, HB1.out⟩
theorem tn_Touch (r : Int) (w : World) : Calls Tryz.prog 22 #[.pointer none, .int .i64 r] w fun e w' => e = .returned (.bool false) ∧ Below w.heap.size w w' := by
  have hmf : ∀ (fn : Fn) (first cap : Array Value) (w : World), (Instr.makeFunc fn first cap).run Tryz.prog w = .ok (.func fn first cap) w := fun _ _ _ _ => rfl
  have HB0 : Hid (Below w.heap.size w w) := Lib.hid (Below.refl _ _)
  go_enter Tryz.func22, Tryz.ntmps22
  go_wp2_with fail
  refine (tn_Phase _).mono ?_
  rintro e v1 ⟨rfl, hb⟩
  have HB1 := Lib.hid (below_step HB0.out hb)
  clear hb
  go_wp2_with fail
  go_ret
  exact ⟨rfl, HB1.out⟩
theorem tn_Lighten (r : Int) (w : World) : Calls Tryz.prog 25 #[.pointer none, .int .i64 r] w fun e w' => e = .returned (.bool false) ∧ Below w.heap.size w w' := by
  have hmf : ∀ (fn : Fn) (first cap : Array Value) (w : World), (Instr.makeFunc fn first cap).run Tryz.prog w = .ok (.func fn first cap) w := fun _ _ _ _ => rfl
  have HB0 : Hid (Below w.heap.size w w) := Lib.hid (Below.refl _ _)
  go_enter Tryz.func25, Tryz.ntmps25
  go_wp2_with fail
  refine (tn_Phase _).mono ?_
  rintro e v1 ⟨rfl, hb⟩
  have HB1 := Lib.hid (below_step HB0.out hb)
  clear hb
  go_wp2_with fail
  go_ret
  exact ⟨rfl, HB1.out⟩
theorem tn_Deepen (r : Int) (w : World) : Calls Tryz.prog 18 #[.pointer none, .int .i64 r] w fun e w' => e = .returned (.bool false) ∧ Below w.heap.size w w' := by
  have hmf : ∀ (fn : Fn) (first cap : Array Value) (w : World), (Instr.makeFunc fn first cap).run Tryz.prog w = .ok (.func fn first cap) w := fun _ _ _ _ => rfl
  have HB0 : Hid (Below w.heap.size w w) := Lib.hid (Below.refl _ _)
  go_enter Tryz.func18, Tryz.ntmps18
  go_wp2_with fail
  refine (tn_Shadow r _).mono ?_
  rintro e v1 ⟨rfl, hb⟩
  have HB1 := Lib.hid (below_step HB0.out hb)
  clear hb
  go_wp2_with fail
  refine (tn_Parity _).mono ?_
  rintro e v2 ⟨rfl, hb⟩
  have HB2 := Lib.hid (below_step HB1.out hb)
  clear hb
  have HB3 := Lib.hid (HB2.out.alloc HB2.out.size (.cells #[.int .i64 0] 3))
  go_wp2_with fail
  refine (tn_change r _ _).mono ?_
  rintro e v4 ⟨rfl, hb⟩
  have HB4 := Lib.hid (below_step HB3.out hb)
  clear hb
  go_wp2_with fail
  go_ret
  exact ⟨rfl, HB4.out⟩
theorem tintNil : TintNil where
  turn := fun w => ⟨_, tn_Turn w⟩
  at_ := tn_At
  parity := tn_Parity
  phase := tn_Phase
  begin_ := tn_Begin
  move := tn_Move
  dye := tn_Dye
  black := tn_Black
  paint := tn_Paint
  touch := tn_Touch
  dead := tn_Dead
  kill := tn_Kill
  shadow := tn_Shadow
  deepen := tn_Deepen
  lighten := tn_Lighten
  counted := tn_Counted
  done := tn_Done
end Go.Proofs.YtmcgplblbdjaiaaGreat.Pk
