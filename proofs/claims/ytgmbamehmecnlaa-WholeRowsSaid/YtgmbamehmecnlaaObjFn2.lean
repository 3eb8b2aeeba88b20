/-
  Layer 11: what is asked, got and set of an object; Blocks, Shed, End.
-/
import Derived.Test.YtgmbamehmecnlaaObjFn
namespace Go.Proofs.Ytgmbamehmecnlaa.Pk
open Go.RowKit
set_option linter.unusedVariables false
set_option linter.unusedSimpArgs false
set_option maxRecDepth 100000

section
variable {p : Pl} {c : Cf} {s : St} {pool : List Nat} {os : List Ob} {o : Ob} {r : Int} {w : World}
/-! ### Is, Lens -/
theorem isB {c : Cf} {zs : List Int} (H : HeapAt c zs pool os) (hm : c.May) (hr : In64 r) : headB (tagI c zs (prev r)) = (obAt os r).isSome := by
  cases h : obAt os r with
  | none => exact headB_no (noHead_prev H hm hr h)
  | some o =>
    obtain ⟨ho, rfl⟩ := obAt_some h
    have hA := H.obs o ho
    rw [prev_ob hm hA.hlt, tagI_in hm hA.hlt]
    exact headB_yes hA.head
theorem ob_is (hG : G w p c s) (r : Int) : Calls Try.prog 40 #[.pointer (some ⟨p.a, 0, none⟩), .int .i64 r] w (GP w p c ⟨s.zs, s.m + 1 * askN (wordA c (prev r) 0)⟩ (.bool (headB (tagI c s.zs (prev r))))) := by
  have hmf : ∀ (fn : Fn) (first cap : Array Value) (w : World), (Instr.makeFunc fn first cap).run Try.prog w = .ok (.func fn first cap) w := fun _ _ _ _ => rfl
  have H := Lib.hid (ob_isHead (rdWord p c) s (prev r) _ w hG rfl)
  have e1 : wrap64 (r - 1) = prev r := rfl
  have HG := Lib.hid hG
  generalize headB (tagI c s.zs (prev r)) = hb at *
  clear hG
  go_enter Try.func40, Try.ntmps40
  have HT0 : Hid (Touch (inG p) w w) := Lib.hid (Touch.refl _ _)
  go_wp2_with fail
  refine (H.out).mono ?_
  rintro e wm1 ⟨rfl, hG, hT⟩
  have HG1 := Lib.hid hG
  have HT1 : Hid (Touch (inG p) _ wm1) := Lib.hid (HT0.out.trans hT)
  clear hG hT
  go_wp2_with fail
  go_ret
  exact ⟨rfl, HG1.out, HT1.out⟩
theorem ob_lens_yes (hG : G w p c s) (H : HeapAt c s.zs pool os) (ho : o ∈ os) : Calls Try.prog 39 #[.pointer (some ⟨p.a, 0, none⟩), .int .i64 ((o.h : Int) + 1)] w (GP w p c ⟨s.zs, s.m + 3⟩ (.tuple #[.int .i64 (o.np : Int), .int .i64 (o.nd : Int), .int .i64 0])) := by
  have hmf : ∀ (fn : Fn) (first cap : Array Value) (w : World), (Instr.makeFunc fn first cap).run Try.prog w = .ok (.func fn first cap) w := fun _ _ _ _ => rfl
  have HL := Lib.hid (lens_yes hG H ho)
  have HG := Lib.hid hG
  have e1 := w64_ob hG.may (H.obs o ho).hlt
  clear hG H ho
  go_enter Try.func39, Try.ntmps39
  have HT0 : Hid (Touch (inG p) w w) := Lib.hid (Touch.refl _ _)
  go_wp2_with fail
  refine (HL.out).mono ?_
  rintro e wm1 ⟨rfl, hG, hT⟩
  have HG1 := Lib.hid hG
  have HT1 : Hid (Touch (inG p) _ wm1) := Lib.hid (HT0.out.trans hT)
  clear hG hT
  have HG2 := Lib.hid (HG1.out.alloc (.cells #[.int .i64 (o.np : Int), .int .i64 (o.nd : Int)] 75))
  have BN2 := Lib.hid (Blk.new wm1 #[.int .i64 (o.np : Int), .int .i64 (o.nd : Int)] 75)
  have HT2 : Hid (Touch (inG p) w (wm1.alloc (.cells #[.int .i64 (o.np : Int), .int .i64 (o.nd : Int)] 75))) := Lib.hid (HT1.out.alloc _)
  go_wp2_with fail
  generalize wm1.heap.size = n at *
  generalize wm1.alloc (.cells #[.int .i64 (o.np : Int), .int .i64 (o.nd : Int)] 75) = v1 at *
  have c0 : v1.cell? ⟨n, 0, none⟩ = some (.int .i64 (o.np : Int)) := BN2.out.cell 0 rfl
  have c1 : v1.cell? ⟨n, 1, none⟩ = some (.int .i64 (o.nd : Int)) := BN2.out.cell 1 rfl
  go_quiet (fail)
  go_wp2_with fail
  go_ret3
  exact ⟨rfl, HG2.out.drw ⟨_, rfl⟩, HT2.out.drewN _⟩
theorem ob_lens_no (hG : G w p c s) (H : HeapAt c s.zs pool os) (hr : In64 r) (ho : obAt os r = none) : Calls Try.prog 39 #[.pointer (some ⟨p.a, 0, none⟩), .int .i64 r] w (GP w p c ⟨s.zs, s.m + askN (wordA c (prev r) 0)⟩ (.tuple #[.int .i64 0, .int .i64 0, .int .i64 8])) := by
  have hmf : ∀ (fn : Fn) (first cap : Array Value) (w : World), (Instr.makeFunc fn first cap).run Try.prog w = .ok (.func fn first cap) w := fun _ _ _ _ => rfl
  have HL := Lib.hid (lens_no hG H hr ho)
  have HG := Lib.hid hG
  have e1 : wrap64 (r - 1) = prev r := rfl
  clear hG H ho hr
  go_enter Try.func39, Try.ntmps39
  have HT0 : Hid (Touch (inG p) w w) := Lib.hid (Touch.refl _ _)
  go_wp2_with fail
  refine (HL.out).mono ?_
  rintro e wm1 ⟨rfl, hG, hT⟩
  have HG1 := Lib.hid hG
  have HT1 : Hid (Touch (inG p) _ wm1) := Lib.hid (HT0.out.trans hT)
  clear hG hT
  go_wp2_with fail
  go_ret3
  exact ⟨rfl, HG1.out.alloc _, HT1.out.alloc _⟩

/-! ### Ptr, Data -/
theorem ob_Ptr_err (i E : Int) {s' : St} (hE : E ≠ 0) (hF : Calls Try.prog 60 #[.pointer (some ⟨p.a, 0, none⟩), .int .i64 r, .int .i64 0, .int .i64 i] w (GP w p c s' (.tuple #[.int .i64 0, .int .i64 0, .int .i64 E]))) :
    Calls Try.prog 37 #[.pointer (some ⟨p.a, 0, none⟩), .int .i64 r, .int .i64 i] w (GP w p c s' (.tuple #[.int .i64 0, .int .i64 E])) := by
  have HF := Lib.hid hF
  have hne : (E != 0) = true := by simpa using hE
  clear hF hE
  go_enter Try.func37, Try.ntmps37
  go_wp2_with fail
  refine HF.out.mono ?_
  rintro e w1 ⟨rfl, hG, hT⟩
  have HG := Lib.hid hG
  have HT := Lib.hid hT
  clear hG hT
  go_wp2_with fail
  go_ret2
  exact ⟨rfl, HG.out, HT.out⟩
theorem ob_Ptr_ok (i : Int) {s' : St} (b v : Nat) (y : Int) (hb : b < c.N) (hv : v < c.W) (hy : nth s'.zs (adr c b v) = y) (h0 : 0 ≤ y) (h1 : y ≤ 4294967295) (hF : Calls Try.prog 60 #[.pointer (some ⟨p.a, 0, none⟩), .int .i64 r, .int .i64 0, .int .i64 i] w (GP w p c s' (.tuple #[.int .i64 (b : Int), .int .i64 (v : Int), .int .i64 0]))) :
    Calls Try.prog 37 #[.pointer (some ⟨p.a, 0, none⟩), .int .i64 r, .int .i64 i] w (GP w p c ⟨s'.zs, s'.m + 1⟩ (.tuple #[.int .i64 y, .int .i64 0])) := by
  have HF := Lib.hid hF
  have HY := Lib.hid hy
  have HB := Lib.hid hb
  have HV := Lib.hid hv
  have hwr : IntKind.i64.wrap y = y := IntWalk.i64_in _ (by omega)
  clear hF hy hb hv
  go_enter Try.func37, Try.ntmps37
  go_wp2_with fail
  refine HF.out.mono ?_
  rintro e w1 ⟨rfl, hG, hT⟩
  have HG := Lib.hid hG
  have HT := Lib.hid hT
  clear hG hT
  go_wp2_with fail
  refine (wordW p c _ b v _ _ y _ HG.out HB.out HV.out rfl rfl HY.out).mono ?_
  rintro e w2 ⟨rfl, hG, hT⟩
  have HG2 := Lib.hid hG
  have HT2 := Lib.hid (HT.out.trans hT)
  clear hG hT
  go_wp2_with fail
  go_ret2
  exact ⟨rfl, HG2.out, HT2.out⟩
theorem ob_Data_err (i E : Int) {s' : St} (hE : E ≠ 0) (hF : Calls Try.prog 60 #[.pointer (some ⟨p.a, 0, none⟩), .int .i64 r, .int .i64 1, .int .i64 i] w (GP w p c s' (.tuple #[.int .i64 0, .int .i64 0, .int .i64 E]))) :
    Calls Try.prog 38 #[.pointer (some ⟨p.a, 0, none⟩), .int .i64 r, .int .i64 i] w (GP w p c s' (.tuple #[.int .u32 0, .int .i64 E])) := by
  have HF := Lib.hid hF
  have hne : (E != 0) = true := by simpa using hE
  clear hF hE
  go_enter Try.func38, Try.ntmps38
  go_wp2_with fail
  refine HF.out.mono ?_
  rintro e w1 ⟨rfl, hG, hT⟩
  have HG := Lib.hid hG
  have HT := Lib.hid hT
  clear hG hT
  go_wp2_with fail
  go_ret2
  exact ⟨rfl, HG.out, HT.out⟩
theorem ob_Data_ok (i : Int) {s' : St} (b v : Nat) (y : Int) (hb : b < c.N) (hv : v < c.W) (hy : nth s'.zs (adr c b v) = y) (h0 : 0 ≤ y) (h1 : y ≤ 4294967295) (hF : Calls Try.prog 60 #[.pointer (some ⟨p.a, 0, none⟩), .int .i64 r, .int .i64 1, .int .i64 i] w (GP w p c s' (.tuple #[.int .i64 (b : Int), .int .i64 (v : Int), .int .i64 0]))) :
    Calls Try.prog 38 #[.pointer (some ⟨p.a, 0, none⟩), .int .i64 r, .int .i64 i] w (GP w p c ⟨s'.zs, s'.m + 1⟩ (.tuple #[.int .u32 y, .int .i64 0])) := by
  have HF := Lib.hid hF
  have HY := Lib.hid hy
  have HB := Lib.hid hb
  have HV := Lib.hid hv
  have hwr : IntKind.i64.wrap y = y := IntWalk.i64_in _ (by omega)
  clear hF hy hb hv
  go_enter Try.func38, Try.ntmps38
  go_wp2_with fail
  refine HF.out.mono ?_
  rintro e w1 ⟨rfl, hG, hT⟩
  have HG := Lib.hid hG
  have HT := Lib.hid hT
  clear hG hT
  go_wp2_with fail
  refine (wordW p c _ b v _ _ y _ HG.out HB.out HV.out rfl rfl HY.out).mono ?_
  rintro e w2 ⟨rfl, hG, hT⟩
  have HG2 := Lib.hid hG
  have HT2 := Lib.hid (HT.out.trans hT)
  clear hG hT
  go_wp2_with fail
  go_ret2
  exact ⟨rfl, HG2.out, HT2.out⟩
/-! ### SetPtr, SetData -/
theorem ob_SetPtr_err (i x E : Int) {s' : St} (hE : E ≠ 0) (hF : Calls Try.prog 60 #[.pointer (some ⟨p.a, 0, none⟩), .int .i64 r, .int .i64 0, .int .i64 i] w (GP w p c s' (.tuple #[.int .i64 0, .int .i64 0, .int .i64 E]))) :
    Calls Try.prog 23 #[.pointer (some ⟨p.a, 0, none⟩), .int .i64 r, .int .i64 i, .int .i64 x] w (GP w p c s' (.int .i64 E)) := by
  have HF := Lib.hid hF
  have hne : (E != 0) = true := by simpa using hE
  clear hF hE
  go_enter Try.func23, Try.ntmps23
  go_wp2_with fail
  refine HF.out.mono ?_
  rintro e w1 ⟨rfl, hG, hT⟩
  have HG := Lib.hid hG
  have HT := Lib.hid hT
  clear hG hT
  go_wp2_with fail
  go_ret
  exact ⟨rfl, HG.out, HT.out⟩
theorem ob_SetData_err (i x E : Int) {s' : St} (hE : E ≠ 0) (hF : Calls Try.prog 60 #[.pointer (some ⟨p.a, 0, none⟩), .int .i64 r, .int .i64 1, .int .i64 i] w (GP w p c s' (.tuple #[.int .i64 0, .int .i64 0, .int .i64 E]))) :
    Calls Try.prog 24 #[.pointer (some ⟨p.a, 0, none⟩), .int .i64 r, .int .i64 i, .int .u32 x] w (GP w p c s' (.int .i64 E)) := by
  have HF := Lib.hid hF
  have hne : (E != 0) = true := by simpa using hE
  clear hF hE
  go_enter Try.func24, Try.ntmps24
  go_wp2_with fail
  refine HF.out.mono ?_
  rintro e w1 ⟨rfl, hG, hT⟩
  have HG := Lib.hid hG
  have HT := Lib.hid hT
  clear hG hT
  go_wp2_with fail
  go_ret
  exact ⟨rfl, HG.out, HT.out⟩
theorem ob_SetData_ok (i : Int) {s' : St} (b v : Nat) (x : Int) (hb : b < c.N) (hv : v < c.W) (h0 : 0 ≤ x) (h1 : x ≤ 4294967295) (hF : Calls Try.prog 60 #[.pointer (some ⟨p.a, 0, none⟩), .int .i64 r, .int .i64 1, .int .i64 i] w (GP w p c s' (.tuple #[.int .i64 (b : Int), .int .i64 (v : Int), .int .i64 0]))) :
    Calls Try.prog 24 #[.pointer (some ⟨p.a, 0, none⟩), .int .i64 r, .int .i64 i, .int .u32 x] w (GP w p c ⟨s'.zs.set (adr c b v) x, s'.m + 1⟩ (.int .i64 0)) := by
  have HF := Lib.hid hF
  have HB := Lib.hid hb
  have HV := Lib.hid hv
  clear hF hb hv
  go_enter Try.func24, Try.ntmps24
  go_wp2_with fail
  refine HF.out.mono ?_
  rintro e w1 ⟨rfl, hG, hT⟩
  have HG := Lib.hid hG
  have HT := Lib.hid hT
  clear hG hT
  go_wp2_with fail
  refine (setwordW p c _ b v _ _ x _ HG.out HB.out HV.out rfl rfl h0 h1).mono ?_
  rintro e w2 ⟨rfl, hG, hT⟩
  have HG2 := Lib.hid hG
  have HT2 := Lib.hid (HT.out.trans hT)
  clear hG hT
  go_wp2_with fail
  go_ret
  exact ⟨rfl, HG2.out, HT2.out⟩
theorem ob_SetPtr_ok (i : Int) {s' : St} (b v : Nat) (x : Int) (hm : c.May) (hb : b < c.N) (hv : v < c.W) (h0 : 0 ≤ x) (h1 : x ≤ (c.N : Int)) (hF : Calls Try.prog 60 #[.pointer (some ⟨p.a, 0, none⟩), .int .i64 r, .int .i64 0, .int .i64 i] w (GP w p c s' (.tuple #[.int .i64 (b : Int), .int .i64 (v : Int), .int .i64 0]))) :
    Calls Try.prog 23 #[.pointer (some ⟨p.a, 0, none⟩), .int .i64 r, .int .i64 i, .int .i64 x] w (GP w p c ⟨s'.zs.set (adr c b v) x, s'.m + 1⟩ (.int .i64 0)) := by
  have hN := hm.n
  have HF := Lib.hid hF
  have HB := Lib.hid hb
  have HV := Lib.hid hv
  have h2 : x ≤ 4294967295 := by omega
  have hwr : IntKind.u32.wrap x = x := by rw [IntKind.wrap_u32]; omega
  have hfd := cfield0 (c.N : Int) (c.W : Int) (c.R : Int) (c.K : Int)
  have hlt : ¬ x < 0 := by omega
  have hgt : ¬ (c.N : Int) < x := by omega
  clear hF hb hv hN
  go_enter Try.func23, Try.ntmps23
  have HT0 : Hid (Touch (inG p) w w) := Lib.hid (Touch.refl _ _)
  go_wp2_with fail
  refine HF.out.mono ?_
  rintro e w1 ⟨rfl, hG, hT⟩
  have HG := Lib.hid hG
  have HT := Lib.hid hT
  clear hG hT
  go_wp2_with fail
  refine (gconfC p c _ _ HG.out).mono ?_
  rintro e wm1 ⟨rfl, hb⟩
  have HG1 := Lib.hid (HG.out.later hb)
  have HT1 : Hid (Touch (inG p) _ wm1) := Lib.hid (HT.out.trans (Touch.of_below hb))
  clear hb
  go_wp2_with fail
  refine (setwordW p c _ b v _ _ x _ HG1.out HB.out HV.out rfl rfl h0 h2).mono ?_
  rintro e w3 ⟨rfl, hG, hT⟩
  have HG3 := Lib.hid hG
  have HT3 := Lib.hid (HT1.out.trans hT)
  clear hG hT
  go_wp2_with fail
  go_ret
  exact ⟨rfl, HG3.out, HT3.out⟩
theorem ob_SetPtr_arg (i : Int) {s' : St} (b v : Nat) (x : Int) (hx : ¬ (0 ≤ x ∧ x ≤ (c.N : Int))) (hF : Calls Try.prog 60 #[.pointer (some ⟨p.a, 0, none⟩), .int .i64 r, .int .i64 0, .int .i64 i] w (GP w p c s' (.tuple #[.int .i64 (b : Int), .int .i64 (v : Int), .int .i64 0]))) :
    Calls Try.prog 23 #[.pointer (some ⟨p.a, 0, none⟩), .int .i64 r, .int .i64 i, .int .i64 x] w (GP w p c s' (.int .i64 2)) := by
  have HF := Lib.hid hF
  have hfd := cfield0 (c.N : Int) (c.W : Int) (c.R : Int) (c.K : Int)
  clear hF
  by_cases hlt : x < 0
  · clear hx
    go_enter Try.func23, Try.ntmps23
    go_wp2_with fail
    refine HF.out.mono ?_
    rintro e w1 ⟨rfl, hG, hT⟩
    have HG := Lib.hid hG
    have HT := Lib.hid hT
    clear hG hT
    go_wp2_with fail
    go_ret
    exact ⟨rfl, HG.out, HT.out⟩
  · have hgt : (c.N : Int) < x := by omega
    clear hx
    go_enter Try.func23, Try.ntmps23
    go_wp2_with fail
    refine HF.out.mono ?_
    rintro e w1 ⟨rfl, hG, hT⟩
    have HG := Lib.hid hG
    have HT := Lib.hid hT
    clear hG hT
    go_wp2_with fail
    refine (gconfC p c _ _ HG.out).mono ?_
    rintro e w2 ⟨rfl, hb⟩
    have HG2 := Lib.hid (HG.out.later hb)
    have HT2 := Lib.hid (HT.out.trans (Touch.of_below hb))
    clear hb
    go_wp2_with fail
    go_ret
    exact ⟨rfl, HG2.out, HT2.out⟩

/-! ### Blocks -/
theorem blocks_ob {c : Cf} {zs : List Int} (hA : ObjAt c zs o) (hm : c.May) : sizeE c.W o.np o.nd = 0 ∧ blocksV c.W o.np o.nd = 1 + (o.lv.length : Int) := by
  have hW := hm.w
  have h1 := hA.size
  have h2 := hA.lvs
  unfold Ob.f at h1 h2
  rw [Int.natCast_add] at h1 h2
  have hs : sizeE c.W o.np o.nd = 0 := by
    unfold sizeE
    rw [if_pos (widB_mk (by omega) (by omega)), if_neg (by omega)]
  refine ⟨hs, ?_⟩
  unfold blocksV
  rw [if_pos hs, h2]
set_option maxHeartbeats 1000000 in
theorem ob_blocks_yes (hG : G w p c s) (H : HeapAt c s.zs pool os) (ho : o ∈ os) : Calls Try.prog 22 #[.pointer (some ⟨p.a, 0, none⟩), .int .i64 ((o.h : Int) + 1)] w (GP w p c ⟨s.zs, s.m + 3⟩ (.int .i64 (1 + (o.lv.length : Int)))) := by
  have hmf : ∀ (fn : Fn) (first cap : Array Value) (w : World), (Instr.makeFunc fn first cap).run Try.prog w = .ok (.func fn first cap) w := fun _ _ _ _ => rfl
  have HL := Lib.hid (lens_yes hG H ho)
  have HG := Lib.hid hG
  have e1 := w64_ob hG.may (H.obs o ho).hlt
  obtain ⟨b1, b2⟩ := blocks_ob (H.obs o ho) hG.may
  have HBk : Hid (∀ w', Calls Try.prog 45 #[.int .i64 (c.W : Int), .int .i64 (o.np : Int), .int .i64 (o.nd : Int)] w' fun e w'' => e = .returned (.tuple #[.int .i64 (1 + (o.lv.length : Int)), .int .i64 0]) ∧ Below w'.heap.size w' w'') := Lib.hid (fun w' => by
    have h := shBlocks_any c.W o.np o.nd w'
    rw [b1, b2] at h
    exact h)
  have hfd := cfield1 (c.N : Int) (c.W : Int) (c.R : Int) (c.K : Int)
  generalize 1 + (o.lv.length : Int) = B at *
  clear hG H ho b1 b2
  go_enter Try.func22, Try.ntmps22
  have HT0 : Hid (Touch (inG p) w w) := Lib.hid (Touch.refl _ _)
  go_wp2_with fail
  refine (HL.out).mono ?_
  rintro e wm1 ⟨rfl, hG, hT⟩
  have HG1 := Lib.hid hG
  have HT1 : Hid (Touch (inG p) _ wm1) := Lib.hid (HT0.out.trans hT)
  clear hG hT
  have HG2 := Lib.hid (HG1.out.alloc (.cells #[.int .i64 (o.np : Int), .int .i64 (o.nd : Int)] 75))
  have BN2 := Lib.hid (Blk.new wm1 #[.int .i64 (o.np : Int), .int .i64 (o.nd : Int)] 75)
  have HT2 : Hid (Touch (inG p) w (wm1.alloc (.cells #[.int .i64 (o.np : Int), .int .i64 (o.nd : Int)] 75))) := Lib.hid (HT1.out.alloc _)
  go_wp2_with fail
  generalize wm1.heap.size = n at *
  generalize wm1.alloc (.cells #[.int .i64 (o.np : Int), .int .i64 (o.nd : Int)] 75) = v1 at *
  have cc0 := fun w' (hC : Below v1.heap.size v1 w') => (show w'.cell? ⟨n, 0, none⟩ = some (.int .i64 (o.np : Int)) from (BN2.out.later hC).cell 0 rfl)
  have cc1 := fun w' (hC : Below v1.heap.size v1 w') => (show w'.cell? ⟨n, 1, none⟩ = some (.int .i64 (o.nd : Int)) from (BN2.out.later hC).cell 1 rfl)
  refine wp_region_tame_all [Fact.is (.pointer (some ⟨p.a, 0, none⟩)), Fact.is (.agg #[.int .i64 (c.N : Int), .int .i64 (c.W : Int), .int .i64 (c.R : Int), .int .i64 (c.K : Int)]), Fact.is (.int .i64 ((c.W : Int))), Fact.is (.pointer (some ⟨n, 0, none⟩)), Fact.is (.int .i64 ((o.np : Int))), Fact.is (.pointer (some ⟨n, 1, none⟩)), Fact.is (.int .i64 ((o.nd : Int))), Fact.is (.tuple #[.int .i64 B, .int .i64 0]), Fact.is (.tuple #[.int .i64 B, .int .i64 0]), Fact.is (.int .i64 B), Fact.is (.int .i64 0), Fact.is (.int .i64 B), Fact.is (.int .i64 0)] (by kernel_rfl) (by kernel_rfl) rfl (by kernel_rfl) (fun ops K2 hops hK => ?_)
  refine walkT_is (wantedN rfl) (fun w' hC hd => tame_move _ (.inl rfl) rfl) (by go_frame; rfl) (by simp only [List.nil_append, List.cons_append]; rfl) ?_
  refine walkT_is (wantedN rfl) (fun w' hC hd => tame_1 20 (.pointer (some ⟨p.a, 0, none⟩)) rfl (fun ρ hρ hf e0 => upon_call_below (f := 46) (by go_simp) (gconfC p c _ w' (HG2.out.later hC)))) (by go_frame; rfl) (by simp only [List.nil_append, List.cons_append]; rfl) ?_
  refine walkT_is (wantedN rfl) (fun w' hC hd => tame_1 21 (.agg #[.int .i64 (c.N : Int), .int .i64 (c.W : Int), .int .i64 (c.R : Int), .int .i64 (c.K : Int)]) rfl (fun ρ hρ hf e0 => upon_is (by have hb0 := hfd; go_simp))) (by go_frame; rfl) (by simp only [List.nil_append, List.cons_append]; rfl) ?_
  refine walkT_is (wantedN rfl) (fun w' hC hd => tame_1 5 (.pointer (some ⟨n, 0, none⟩)) rfl (fun ρ hρ hf e0 => upon_is (by go_simp))) (by go_frame; rfl) (by simp only [List.nil_append, List.cons_append]; rfl) ?_
  refine walkT_is (wantedN rfl) (fun w' hC hd => tame_1 23 (.pointer (some ⟨n, 0, none⟩)) rfl (fun ρ hρ hf e0 => upon_is (by have hc0 := cc0 w' hC; go_simp))) (by go_frame; rfl) (by simp only [List.nil_append, List.cons_append]; rfl) ?_
  refine walkT_is (wantedN rfl) (fun w' hC hd => tame_1 5 (.pointer (some ⟨n, 0, none⟩)) rfl (fun ρ hρ hf e0 => upon_is (by go_simp))) (by go_frame; rfl) (by simp only [List.nil_append, List.cons_append]; rfl) ?_
  refine walkT_is (wantedN rfl) (fun w' hC hd => tame_1 25 (.pointer (some ⟨n, 1, none⟩)) rfl (fun ρ hρ hf e0 => upon_is (by have hc0 := cc1 w' hC; go_simp))) (by go_frame; rfl) (by simp only [List.nil_append, List.cons_append]; rfl) ?_
  refine walkT_is (wantedN rfl) (fun w' hC hd => tame_3 22 (.int .i64 ((c.W : Int))) 24 (.int .i64 ((o.np : Int))) 26 (.int .i64 ((o.nd : Int))) rfl rfl rfl (fun ρ hρ hf e0 e1 e2 => upon_call_below (f := 45) (by go_simp) (HBk.out w'))) (by go_frame; rfl) (by simp only [List.nil_append, List.cons_append]; rfl) ?_
  refine walkT_is (wantedN rfl) (fun w' hC hd => tame_move _ (.inl rfl) rfl) (by go_frame; rfl) (by simp only [List.nil_append, List.cons_append]; rfl) ?_
  refine walkT_is (wantedN rfl) (fun w' hC hd => tame_1 19 (.tuple #[.int .i64 B, .int .i64 0]) rfl (fun ρ hρ hf e0 => upon_is (by go_simp))) (by go_frame; rfl) (by simp only [List.nil_append, List.cons_append]; rfl) ?_
  refine walkT_is (wantedN rfl) (fun w' hC hd => tame_1 19 (.tuple #[.int .i64 B, .int .i64 0]) rfl (fun ρ hρ hf e0 => upon_is (by go_simp))) (by go_frame; rfl) (by simp only [List.nil_append, List.cons_append]; rfl) ?_
  refine walkT_is (wantedN rfl) (fun w' hC hd => tame_move _ (.inr rfl) rfl) (by go_frame; rfl) (by simp only [List.nil_append, List.cons_append]; rfl) ?_
  refine walkT_is (wantedN rfl) (fun w' hC hd => tame_move _ (.inr rfl) rfl) (by go_frame; rfl) (by simp only [List.nil_append, List.cons_append]; rfl) ?_
  refine walkT_nil fun w3 hC3 _ => hK _ _ ?_
  have HG3 := Lib.hid (HG2.out.later hC3)
  have HT3 := Lib.hid (HT2.out.trans (Touch.of_below (X := inG p) hC3))
  clear cc0 cc1 hC3 HG2 HT2 BN2 hK
  go_wp2_with fail
  go_ret
  exact ⟨rfl, HG3.out, HT3.out⟩
theorem ob_blocks_no (hG : G w p c s) (H : HeapAt c s.zs pool os) (hr : In64 r) (ho : obAt os r = none) : Calls Try.prog 22 #[.pointer (some ⟨p.a, 0, none⟩), .int .i64 r] w (GP w p c ⟨s.zs, s.m + askN (wordA c (prev r) 0)⟩ (.int .i64 0)) := by
  have hmf : ∀ (fn : Fn) (first cap : Array Value) (w : World), (Instr.makeFunc fn first cap).run Try.prog w = .ok (.func fn first cap) w := fun _ _ _ _ => rfl
  have HL := Lib.hid (lens_no hG H hr ho)
  have HG := Lib.hid hG
  have e1 : wrap64 (r - 1) = prev r := rfl
  clear hG H ho hr
  go_enter Try.func22, Try.ntmps22
  have HT0 : Hid (Touch (inG p) w w) := Lib.hid (Touch.refl _ _)
  go_wp2_with fail
  refine (HL.out).mono ?_
  rintro e wm1 ⟨rfl, hG, hT⟩
  have HG1 := Lib.hid hG
  have HT1 : Hid (Touch (inG p) _ wm1) := Lib.hid (HT0.out.trans hT)
  clear hG hT
  go_wp2_with fail
  go_ret
  exact ⟨rfl, HG1.out.alloc _, HT1.out.alloc _⟩

/-! ### Shed, End -/
/-- Shed, where so many blocks are told, and there is no such leaf. -/
theorem ob_shed_none (j B : Int) {s' : St} (hj : j < 0 ∨ B - 1 ≤ j) (hB0 : 0 ≤ B) (hB1 : B ≤ 1000000) (hG : G w p c s) (hF : 0 ≤ j → Calls Try.prog 22 #[.pointer (some ⟨p.a, 0, none⟩), .int .i64 r] w (GP w p c s' (.int .i64 B))) (hn : j < 0 → s' = s) :
    Calls Try.prog 41 #[.pointer (some ⟨p.a, 0, none⟩), .int .i64 r, .int .i64 j] w (GP w p c s' (.bool false)) := by
  have HG := Lib.hid hG
  by_cases h0 : j < 0
  · have hn := hn h0
    subst hn
    clear hG hF hj
    go_enter Try.func41, Try.ntmps41
    go_wp2_with fail
    go_ret
    exact ⟨rfl, HG.out, Touch.refl _ _⟩
  · have HF := Lib.hid (hF (by omega))
    have hge : j ≥ B - 1 := by omega
    have hwr : IntKind.i64.wrap (B - 1) = B - 1 := IntWalk.i64_in _ (by omega)
    clear hG hF hj hn
    go_enter Try.func41, Try.ntmps41
    go_wp2_with fail
    refine HF.out.mono ?_
    rintro e w1 ⟨rfl, hG, hT⟩
    have HG1 := Lib.hid hG
    have HT1 := Lib.hid hT
    clear hG hT
    go_wp2_with fail
    go_ret
    exact ⟨rfl, HG1.out, HT1.out⟩
theorem lv_small (hA : ObjAt c s.zs o) (hm : c.May) : o.lv.length ≤ 256 := by have := hA.lvW hm; have := hm.w; omega
set_option maxHeartbeats 1000000 in
/-- .. where the leaf was shed. -/
theorem ob_shed_gone (j : Nat) (hG : G w p c s) (H : HeapAt c s.zs pool os) (ho : o ∈ os) (hj : o.lv[j]? = some 0) :
    Calls Try.prog 41 #[.pointer (some ⟨p.a, 0, none⟩), .int .i64 ((o.h : Int) + 1), .int .i64 (j : Int)] w (GP w p c ⟨s.zs, s.m + 4⟩ (.bool false)) := by
  have hmf : ∀ (fn : Fn) (first cap : Array Value) (w : World), (Instr.makeFunc fn first cap).run Try.prog w = .ok (.func fn first cap) w := fun _ _ _ _ => rfl
  have hA := H.obs o ho
  have hm := hG.may
  have HF := Lib.hid (ob_blocks_yes hG H ho)
  have hjl : j < o.lv.length := (List.getElem?_eq_some_iff.1 hj).1
  have hlW := hA.lvW hm
  have hW := hm.w
  have hsm := lv_small hA hm
  have hge : ¬ (j : Int) ≥ (o.lv.length : Int) := by omega
  have hwr : IntKind.i64.wrap (1 + (o.lv.length : Int) - 1) = (o.lv.length : Int) := by rw [IntWalk.i64_in _ (by omega)]; omega
  have hown := hA.own j hjl
  have hz : o.lv[j] = 0 := by have := List.getElem?_eq_getElem hjl; rw [this] at hj; simpa using hj
  rw [hz] at hown
  have e1 := w64_ob hm hA.hlt
  have HL := Lib.hid (fun w' hG' => ob_leafOf (rdWord p c) ⟨s.zs, s.m + 3⟩ o.h j 0 (o.h : Int) (j : Int) w' hG' rfl rfl hA.hlt (by omega) hown)
  simp only [if_true] at HL
  clear hz hjl
  generalize o.lv.length = B at *
  clear hG H ho hj hA hlW hW hown hm
  go_enter Try.func41, Try.ntmps41
  go_wp2_with fail
  refine HF.out.mono ?_
  rintro e w1 ⟨rfl, hG, hT⟩
  have HG1 := Lib.hid hG
  have HT1 := Lib.hid hT
  clear hG hT
  go_wp2_with fail
  refine (HL.out _ HG1.out).mono ?_
  rintro e w2 ⟨rfl, hG, hT⟩
  have HG2 := Lib.hid hG
  have HT2 := Lib.hid (HT1.out.trans hT)
  clear hG hT
  go_wp2_with fail
  go_ret
  exact ⟨rfl, HG2.out.to rfl (by show s.m + 3 + 1 = s.m + 4; omega), HT2.out⟩
set_option maxHeartbeats 1000000 in
/-- .. where it is there. -/
theorem ob_shed_yes (j b : Nat) (hG : G w p c s) (H : HeapAt c s.zs pool os) (ho : o ∈ os) (hj : o.lv[j]? = some (b + 1)) :
    Calls Try.prog 41 #[.pointer (some ⟨p.a, 0, none⟩), .int .i64 ((o.h : Int) + 1), .int .i64 (j : Int)] w (GP w p c ⟨(poolGiveZ c b s.zs).set (adr c o.h (8 + j)) 0, s.m + (7 + pushD pool)⟩ (.bool true)) := by
  have hmf : ∀ (fn : Fn) (first cap : Array Value) (w : World), (Instr.makeFunc fn first cap).run Try.prog w = .ok (.func fn first cap) w := fun _ _ _ _ => rfl
  have hA := H.obs o ho
  have hm := hG.may
  have HF := Lib.hid (ob_blocks_yes hG H ho)
  have hjl : j < o.lv.length := (List.getElem?_eq_some_iff.1 hj).1
  have hlW := hA.lvW hm
  have hW := hm.w
  have hsm := lv_small hA hm
  have hge : ¬ (j : Int) ≥ (o.lv.length : Int) := by omega
  have hwr : IntKind.i64.wrap (1 + (o.lv.length : Int) - 1) = (o.lv.length : Int) := by rw [IntWalk.i64_in _ (by omega)]; omega
  have hown := hA.own j hjl
  have hz : o.lv[j] = b + 1 := by have := List.getElem?_eq_getElem hjl; rw [this] at hj; simpa using hj
  rw [hz] at hown
  have e1 := w64_ob hm hA.hlt
  have hbl : b ∈ o.blocks := by unfold Ob.blocks; exact List.mem_cons_of_mem _ (Ob.mem_leaves.2 (List.mem_of_getElem? hj))
  have hbN := H.lt ho hbl
  have hbp := H.notPool ho hbl
  have HL := Lib.hid (fun w' hG' => ob_leafOf (rdWord p c) ⟨s.zs, s.m + 3⟩ o.h j (b + 1) (o.h : Int) (j : Int) w' hG' rfl rfl hA.hlt (by omega) hown)
  simp only [Nat.add_eq_zero_iff, Nat.one_ne_zero, and_false, if_false] at HL
  rw [show (((b + 1 : Nat) : Int) - 1) = (b : Int) by omega] at HL
  have hk : uK (nth s.zs (adr c b 0)) ≠ 0 := by
    rw [hA.leaf b (List.mem_of_getElem? hj)]
    unfold uK; omega
  have HP := Lib.hid (fun w' hG' => pl_give_yes p c ⟨s.zs, s.m + 3 + 1⟩ b pool w' hG' H.pl.ch hbN hbp hk)
  have W8 : Hid (8 + j < c.W) := Lib.hid (by omega)
  have HH := Lib.hid hA.hlt
  clear hz hjl
  generalize o.lv.length = B at *
  clear hG H ho hj hA hlW hW hown hm hbl hbN hbp hk
  go_enter Try.func41, Try.ntmps41
  go_wp2_with fail
  refine HF.out.mono ?_
  rintro e w1 ⟨rfl, hG, hT⟩
  have HG1 := Lib.hid hG
  have HT1 := Lib.hid hT
  clear hG hT
  go_wp2_with fail
  refine (HL.out _ HG1.out).mono ?_
  rintro e w2 ⟨rfl, hG, hT⟩
  have HG2 := Lib.hid hG
  have HT2 := Lib.hid (HT1.out.trans hT)
  clear hG hT
  go_wp2_with fail
  refine (HP.out _ (HG2.out.to rfl (by show s.m + 3 + 1 * 1 = s.m + 3 + 1; omega))).mono ?_
  rintro e w3 ⟨rfl, hG, hT⟩
  have HG3 := Lib.hid hG
  have HT3 := Lib.hid (HT2.out.trans hT)
  clear hG hT
  go_wp2_with fail
  refine (setwordW p c _ o.h (8 + j) _ _ 0 _ HG3.out HH.out W8.out rfl (by omega) (by omega) (by omega)).mono ?_
  rintro e w4 ⟨rfl, hG, hT⟩
  have HG4 := Lib.hid hG
  have HT4 := Lib.hid (HT3.out.trans hT)
  clear hG hT
  go_wp2_with fail
  go_ret
  exact ⟨rfl, HG4.out.to rfl (by show s.m + 3 + 1 + (2 + pushD pool) + 1 = s.m + (7 + pushD pool); omega), HT4.out⟩
theorem ob_end_no (hG : G w p c s) (H : HeapAt c s.zs pool os) (hr : In64 r) (ho : obAt os r = none) : Calls Try.prog 42 #[.pointer (some ⟨p.a, 0, none⟩), .int .i64 r] w (GP w p c ⟨s.zs, s.m + 1 * askN (wordA c (prev r) 0)⟩ (.bool false)) := by
  have h := ob_is hG r
  rw [isB H hG.may hr, ho] at h
  have HI : Hid (Calls Try.prog 40 #[.pointer (some ⟨p.a, 0, none⟩), .int .i64 r] w (GP w p c ⟨s.zs, s.m + 1 * askN (wordA c (prev r) 0)⟩ (.bool false))) := Lib.hid h
  clear hG H hr ho h
  go_enter Try.func42, Try.ntmps42
  go_wp2_with fail
  refine HI.out.mono ?_
  rintro e w1 ⟨rfl, hG, hT⟩
  have HG1 := Lib.hid hG
  have HT1 := Lib.hid hT
  clear hG hT
  go_wp2_with fail
  go_ret
  exact ⟨rfl, HG1.out, HT1.out⟩
theorem ob_end_yes (hG : G w p c s) (H : HeapAt c s.zs pool os) (ho : o ∈ os) : Calls Try.prog 42 #[.pointer (some ⟨p.a, 0, none⟩), .int .i64 ((o.h : Int) + 1)] w (GP w p c ⟨poolGiveZ c o.h s.zs, s.m + (3 + pushD pool)⟩ (.bool true)) := by
  have hA := H.obs o ho
  have hm := hG.may
  have hW := hm.w
  have h := ob_is hG ((o.h : Int) + 1)
  rw [isB H hm (H.in64 hm ho), H.obAt ho, prev_ob hm hA.hlt, show wordA c (o.h : Int) 0 = some (adr c o.h 0) from adr_word hA.hlt (v := 0) (by omega)] at h
  have HI : Hid (Calls Try.prog 40 #[.pointer (some ⟨p.a, 0, none⟩), .int .i64 ((o.h : Int) + 1)] w (GP w p c ⟨s.zs, s.m + 1⟩ (.bool true))) := Lib.hid h
  have e1 := w64_ob hm hA.hlt
  have hhb : o.h ∈ o.blocks := by unfold Ob.blocks; simp
  have hk : uK (nth s.zs (adr c o.h 0)) ≠ 0 := by have := hA.head; unfold HeadT at this; omega
  have HP := Lib.hid (fun w' hG' => pl_give_yes p c ⟨s.zs, s.m + 1⟩ o.h pool w' hG' H.pl.ch hA.hlt (H.notPool ho hhb) hk)
  clear hG H ho h hA hm hW hhb hk
  go_enter Try.func42, Try.ntmps42
  go_wp2_with fail
  refine HI.out.mono ?_
  rintro e w1 ⟨rfl, hG, hT⟩
  have HG1 := Lib.hid hG
  have HT1 := Lib.hid hT
  clear hG hT
  go_wp2_with fail
  refine (HP.out _ HG1.out).mono ?_
  rintro e w2 ⟨rfl, hG, hT⟩
  have HG2 := Lib.hid hG
  have HT2 := Lib.hid (HT1.out.trans hT)
  clear hG hT
  go_wp2_with fail
  go_ret
  exact ⟨rfl, HG2.out.to rfl (by show s.m + 1 + (2 + pushD pool) = _; omega), HT2.out⟩
end
end Go.Proofs.Ytgmbamehmecnlaa.Pk
