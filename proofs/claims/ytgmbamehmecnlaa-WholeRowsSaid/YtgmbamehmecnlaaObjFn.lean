/-
  Layer 11: what package obj's functions return of a heap.
-/
import Derived.Test.YtgmbamehmecnlaaObjRd
import Derived.Test.YtgmbamehmecnlaaTame2
namespace Go.Proofs.Ytgmbamehmecnlaa.Pk
open Go.RowKit
set_option linter.unusedVariables false
set_option linter.unusedSimpArgs false
set_option maxRecDepth 100000

/-- Whoever is no object's reference is no head's. -/
theorem heap_noHead {c : Cf} {zs : List Int} {pool : List Nat} {os : List Ob} (H : HeapAt c zs pool os) (hm : c.May) {r : Int} (h : obAt os r = none) : ¬ HeadT (tagI c zs (r - 1)) := by
  by_cases hr : 0 ≤ r - 1 ∧ r - 1 < (c.N : Int)
  · obtain ⟨b, hb⟩ : ∃ b : Nat, r - 1 = (b : Int) := ⟨(r - 1).toNat, by omega⟩
    rw [hb, tagI_in hm (by omega)]
    rcases H.all (b := b) (by omega) with hp | ⟨o, ho, hbo⟩
    · rw [H.pl.fr b hp]; unfold HeadT uK; decide
    · have hne : o.h ≠ b := fun e => obAt_none h o ho (by omega)
      have : b ∈ o.leaves := by
        unfold Ob.blocks at hbo
        rcases List.mem_cons.1 hbo with e | e
        · exact absurd e.symm hne
        · exact e
      rw [(H.obs o ho).leaf b (Ob.mem_leaves.1 this)]
      unfold HeadT uK; omega
  · rw [tagI_out hr]; unfold HeadT uK; decide
theorem w64_in {x : Int} (h : -9223372036854775808 ≤ x ∧ x ≤ 9223372036854775807) : wrap64 x = x := IntWalk.wrap64_in x h
/-- The number ahead of a reference. -/
def prev (r : Int) : Int := wrap64 (r - 1)
theorem prev_in {r : Int} (hr : In64 r) (h : r ≠ -9223372036854775808) : prev r = r - 1 := by
  unfold In64 at hr
  exact w64_in (by omega)
theorem prev_ob {c : Cf} (hm : c.May) {h : Nat} (hh : h < c.N) : prev ((h : Int) + 1) = (h : Int) := by
  have := hm.n
  unfold prev
  rw [show (h : Int) + 1 - 1 = (h : Int) by omega]
  exact w64_in (by omega)
theorem w64_ob {c : Cf} (hm : c.May) {h : Nat} (hh : h < c.N) : wrap64 (h : Int) = (h : Int) := by
  have := hm.n
  exact w64_in (by omega)
/-- Less one: whatever it wraps to. -/
theorem noHead_prev {c : Cf} {zs : List Int} {pool : List Nat} {os : List Ob} (H : HeapAt c zs pool os) (hm : c.May) {r : Int} (hr : In64 r) (h : Pk.obAt os r = none) : ¬ HeadT (tagI c zs (prev r)) := by
  have hN := hm.n
  by_cases e : r = -9223372036854775808
  · subst e
    rw [show prev (-9223372036854775808) = 9223372036854775807 from by unfold prev wrap64; decide, tagI_out (by omega)]
    unfold HeadT uK; decide
  · rw [prev_in hr e]
    exact heap_noHead H hm h

theorem ob_all (a b x : Int) (w : World) (h : wrap64 (a + b) = x) : Calls Try.prog 52 #[.agg #[.int .i64 a, .int .i64 b]] w fun e w' => e = .returned (.int .i64 x) ∧ Below w.heap.size w w' := by
  subst h
  go_enter Try.func52, Try.ntmps52
  go_wp2_with fail
  go_ret
  exact ⟨rfl, below_new _ _⟩
def findV (q : Option (Nat × Nat)) : Value := match q with
  | some q => .tuple #[.int .i64 (q.1 : Int), .int .i64 (q.2 : Int), .int .i64 0]
  | none => .tuple #[.int .i64 0, .int .i64 0, .int .i64 7]

section
variable {p : Pl} {c : Cf} {s : St} {pool : List Nat} {os : List Ob} {o : Ob} {r : Int} {w : World}
theorem lens_yes (hG : G w p c s) (H : HeapAt c s.zs pool os) (ho : o ∈ os) : Calls Try.prog 50 #[.func (.func 55) #[.pointer (some ⟨p.a, 0, none⟩)] #[], .int .i64 (o.h : Int)] w (GP w p c ⟨s.zs, s.m + 3⟩ (.tuple #[.agg #[.int .i64 (o.np : Int), .int .i64 (o.nd : Int)], .bool true])) := by
  have hA := H.obs o ho
  exact ob_lensOf_yes (rdWord p c) s o.h o.np o.nd _ w hG rfl hA.hlt hA.head hA.w1 hA.w2
theorem lens_no (hG : G w p c s) (H : HeapAt c s.zs pool os) (hr : In64 r) (ho : obAt os r = none) : Calls Try.prog 50 #[.func (.func 55) #[.pointer (some ⟨p.a, 0, none⟩)] #[], .int .i64 (prev r)] w (GP w p c ⟨s.zs, s.m + askN (wordA c (prev r) 0)⟩ (.tuple #[.agg #[.int .i64 0, .int .i64 0], .bool false])) := by
  have h := ob_lensOf_no (rdWord p c) s _ _ w hG rfl (noHead_prev H hG.may hr ho)
  rw [Nat.one_mul] at h
  exact h
/-- How many fields there are at most. -/
theorem ob_small (hG : G w p c s) (H : HeapAt c s.zs pool os) (ho : o ∈ os) : o.np + o.nd ≤ 100000 := by
  have hA := H.obs o ho
  have h1 := hA.size
  have hW := hG.may.w
  have h2 : fieldsI c.W ≤ 63240 := by
    unfold fieldsI
    have a1 : (0 : Int) ≤ (c.W : Int) - 8 := by omega
    have a2 : (c.W : Int) - 8 ≤ 248 := by omega
    have a3 : (c.W : Int) - 1 ≤ 255 := by omega
    have a4 : (0 : Int) ≤ (c.W : Int) - 1 := by omega
    have := Int.mul_le_mul a2 a3 a4 (by omega : (0 : Int) ≤ 248)
    omega
  unfold Ob.f at h1
  omega

set_option maxHeartbeats 1000000 in
theorem ob_find_ref (hG : G w p c s) (H : HeapAt c s.zs pool os) (hr : In64 r) (ho : obAt os r = none) (kk i : Int) :
    Calls Try.prog 60 #[.pointer (some ⟨p.a, 0, none⟩), .int .i64 r, .int .i64 kk, .int .i64 i] w (GP w p c ⟨s.zs, s.m + askN (wordA c (prev r) 0)⟩ (.tuple #[.int .i64 0, .int .i64 0, .int .i64 8])) := by
  have hmf : ∀ (fn : Fn) (first cap : Array Value) (w : World), (Instr.makeFunc fn first cap).run Try.prog w = .ok (.func fn first cap) w := fun _ _ _ _ => rfl
  have HL := Lib.hid (lens_no hG H hr ho)
  have HG := Lib.hid hG
  have e1 : wrap64 (r - 1) = prev r := rfl
  clear hG H ho hr
  go_enter Try.func60, Try.ntmps60
  have HT0 : Hid (Touch (inG p) w w) := Lib.hid (Touch.refl _ _)
  go_wp2_with fail
  refine (HL.out).mono ?_
  rintro e wm1 ⟨rfl, hG, hT⟩
  have HG1 := Lib.hid hG
  have HT1 : Hid (Touch (inG p) _ wm1) := Lib.hid (HT0.out.trans hT)
  clear hG hT
  go_wp2_with fail
  go_ret3
  exact ⟨rfl, HG1.out.alloc _, HT1.out.alloc _⟩

set_option maxHeartbeats 1000000 in
theorem ob_find0_out (hG : G w p c s) (H : HeapAt c s.zs pool os) (ho : o ∈ os) (i : Int) (hi : bel i o.np = false) :
    Calls Try.prog 60 #[.pointer (some ⟨p.a, 0, none⟩), .int .i64 ((o.h : Int) + 1), .int .i64 0, .int .i64 i] w (GP w p c ⟨s.zs, s.m + 3⟩ (.tuple #[.int .i64 0, .int .i64 0, .int .i64 7])) := by
  have hmf : ∀ (fn : Fn) (first cap : Array Value) (w : World), (Instr.makeFunc fn first cap).run Try.prog w = .ok (.func fn first cap) w := fun _ _ _ _ => rfl
  have HL := Lib.hid (lens_yes hG H ho)
  have HG := Lib.hid hG
  have e1 := w64_ob hG.may (H.obs o ho).hlt
  have hb := bel_no hi
  clear hG H ho hi
  by_cases h0 : i < 0
  · clear hb
    go_enter Try.func60, Try.ntmps60
    have HT0 : Hid (Touch (inG p) w w) := Lib.hid (Touch.refl _ _)
    go_wp2_with fail
    refine (HL.out).mono ?_
    rintro e wm1 ⟨rfl, hG, hT⟩
    have HG1 := Lib.hid hG
    have HT1 : Hid (Touch (inG p) _ wm1) := Lib.hid (HT0.out.trans hT)
    clear hG hT
    go_wp2_with fail
    go_ret3
    exact ⟨rfl, HG1.out.alloc _, HT1.out.alloc _⟩
  · have h1 : i ≥ (o.np : Int) := by omega
    clear hb
    go_enter Try.func60, Try.ntmps60
    have HT0 : Hid (Touch (inG p) w w) := Lib.hid (Touch.refl _ _)
    go_wp2_with fail
    refine (HL.out).mono ?_
    rintro e wm1 ⟨rfl, hG, hT⟩
    have HG1 := Lib.hid hG
    have HT1 : Hid (Touch (inG p) _ wm1) := Lib.hid (HT0.out.trans hT)
    clear hG hT
    go_wp2_with fail
    go_ret3
    exact ⟨rfl, HG1.out.alloc _, HT1.out.alloc _⟩

set_option maxHeartbeats 2000000 in
theorem ob_find0 (hG : G w p c s) (H : HeapAt c s.zs pool os) (ho : o ∈ os) (i : Nat) (hi : i < o.np) :
    Calls Try.prog 60 #[.pointer (some ⟨p.a, 0, none⟩), .int .i64 ((o.h : Int) + 1), .int .i64 0, .int .i64 (i : Int)] w (GP w p c ⟨s.zs, s.m + (3 + plD c o)⟩ (findV (fieldP c o (i)))) := by
  have hmf : ∀ (fn : Fn) (first cap : Array Value) (w : World), (Instr.makeFunc fn first cap).run Try.prog w = .ok (.func fn first cap) w := fun _ _ _ _ => rfl
  have HL := Lib.hid (lens_yes hG H ho)
  have HG := Lib.hid hG
  have e1 := w64_ob hG.may (H.obs o ho).hlt
  have hsm := ob_small hG H ho
  have e2 : wrap64 ((o.np : Int) + (o.nd : Int)) = (o.f : Int) := by rw [w64_in (by omega)]; unfold Ob.f; omega
  have e4 : IntKind.i64.wrap (o.h : Int) = (o.h : Int) := by rw [IntWalk.i64_left, e1]
  have hi2 : (i : Int) + (o.np : Int) ≤ 200000 := by omega
  have h0 : ¬ (i : Int) < 0 := by omega
  have h1 : ¬ (i : Int) ≥ (o.np : Int) := by omega
  have hif : i < o.f := by unfold Ob.f; omega
  have hP := fun w' (hG' : G w' p c ⟨s.zs, s.m + 3⟩) => ob_place (rdWord p c) ⟨s.zs, s.m + 3⟩ o (i) w' hG' (H.obs o ho) hif
  rw [show (((i : Nat)) : Int) = (i : Int) from by omega] at hP
  have hfd := cfield1 (c.N : Int) (c.W : Int) (c.R : Int) (c.K : Int)
  generalize fieldP c o (i) = q at *
  have HP := Lib.hid hP
  clear hG H ho hi hsm hif hP
  go_enter Try.func60, Try.ntmps60
  have HT0 : Hid (Touch (inG p) w w) := Lib.hid (Touch.refl _ _)
  go_wp2_with fail
  refine (HL.out).mono ?_
  rintro e wm1 ⟨rfl, hG, hT⟩
  have HG1 := Lib.hid hG
  have HT1 : Hid (Touch (inG p) _ wm1) := Lib.hid (HT0.out.trans hT)
  clear hG hT
  have HG2 := Lib.hid (HG1.out.alloc (.cells #[.int .i64 (o.np : Int), .int .i64 (o.nd : Int)] 75))
  have BN2 := Lib.hid (Blk.new wm1 #[.int .i64 (o.np : Int), .int .i64 (o.nd : Int)] 75)
  have HT2 : Hid (Touch (inG p) w (wm1.alloc (.cells #[.int .i64 (o.np : Int), .int .i64 (o.nd : Int)] 75))) := Lib.hid (HT1.out.alloc _)
  have NG : Hid (¬ inG p wm1.heap.size) := Lib.hid (inG_new HG1.out)
  go_wp2_with fail
  generalize wm1.heap.size = n at *
  generalize wm1.alloc (.cells #[.int .i64 (o.np : Int), .int .i64 (o.nd : Int)] 75) = v1 at *
  have c0 : v1.cell? ⟨n, 0, none⟩ = some (.int .i64 (o.np : Int)) := BN2.out.cell 0 rfl
  have c1 : v1.cell? ⟨n, 1, none⟩ = some (.int .i64 (o.nd : Int)) := BN2.out.cell 1 rfl
  refine wp_loop_rounds 1 ?_
  rw [rounds_succ]
  go_wp2_with fail
  have cc0 := fun w' (hC : Below v1.heap.size v1 w') => (show w'.cell? ⟨n, 0, none⟩ = some (.int .i64 (o.np : Int)) from (BN2.out.later hC).cell 0 rfl)
  have cc1 := fun w' (hC : Below v1.heap.size v1 w') => (show w'.cell? ⟨n, 1, none⟩ = some (.int .i64 (o.nd : Int)) from (BN2.out.later hC).cell 1 rfl)
  refine wp_region_tame_one [Fact.is (.pointer (some ⟨p.a, 0, none⟩)), Fact.is (.func (.func 55) #[.pointer (some ⟨p.a, 0, none⟩)] #[]), Fact.is (.pointer (some ⟨p.a, 0, none⟩)), Fact.is (.agg #[.int .i64 (c.N : Int), .int .i64 (c.W : Int), .int .i64 (c.R : Int), .int .i64 (c.K : Int)]), Fact.is (.int .i64 ((c.W : Int))), Fact.is (.int .i64 ((o.h : Int) + 1)), Fact.is (.int .i64 ((o.h : Int))), Fact.is (.agg #[.int .i64 (o.np : Int), .int .i64 (o.nd : Int)]), Fact.is (.int .i64 ((o.f : Int))), Fact.is (.int .i64 ((i : Int)))] (by kernel_rfl) (by kernel_rfl) rfl rfl (by kernel_rfl) (by kernel_rfl) (fun _ _ _ _ _ h => h) (fun ops K2 hops hK => ?_)
  refine walkT_is (wantedN rfl) (fun w' hC hd => tame_move _ (.inl rfl) rfl) (by go_frame; rfl) (by simp only [List.nil_append, List.cons_append]; rfl) ?_
  refine walkT_is (wantedN rfl) (fun w' hC hd => tame_1 48 (.pointer (some ⟨p.a, 0, none⟩)) rfl (fun ρ hρ hf e0 => upon_is (by go_simp))) (by go_frame; rfl) (by simp only [List.nil_append, List.cons_append]; rfl) ?_
  refine walkT_is (wantedN rfl) (fun w' hC hd => tame_move _ (.inl rfl) rfl) (by go_frame; rfl) (by simp only [List.nil_append, List.cons_append]; rfl) ?_
  refine walkT_is (wantedN rfl) (fun w' hC hd => tame_1 50 (.pointer (some ⟨p.a, 0, none⟩)) rfl (fun ρ hρ hf e0 => upon_call_below (f := 46) (by go_simp) (gconfC p c _ w' (HG2.out.later hC)))) (by go_frame; rfl) (by simp only [List.nil_append, List.cons_append]; rfl) ?_
  refine walkT_is (wantedN rfl) (fun w' hC hd => tame_1 51 (.agg #[.int .i64 (c.N : Int), .int .i64 (c.W : Int), .int .i64 (c.R : Int), .int .i64 (c.K : Int)]) rfl (fun ρ hρ hf e0 => upon_is (by have hb0 := hfd; go_simp))) (by go_frame; rfl) (by simp only [List.nil_append, List.cons_append]; rfl) ?_
  refine walkT_is (wantedN rfl) (fun w' hC hd => tame_move _ (.inl rfl) rfl) (by go_frame; rfl) (by simp only [List.nil_append, List.cons_append]; rfl) ?_
  refine walkT_is (wantedN rfl) (fun w' hC hd => tame_1 53 (.int .i64 ((o.h : Int) + 1)) rfl (fun ρ hρ hf e0 => upon_is (by have hb0 := e4; go_simp))) (by go_frame; rfl) (by simp only [List.nil_append, List.cons_append]; rfl) ?_
  refine walkT_is (wantedN rfl) (fun w' hC hd => tame_1 11 (.pointer (some ⟨n, 0, none⟩)) rfl (fun ρ hρ hf e0 => upon_is (by have hc0 := cc0 w' hC; have hc1 := cc1 w' hC; go_simp))) (by go_frame; rfl) (by simp only [List.nil_append, List.cons_append]; rfl) ?_
  refine walkT_is (wantedN rfl) (fun w' hC hd => tame_1 55 (.agg #[.int .i64 (o.np : Int), .int .i64 (o.nd : Int)]) rfl (fun ρ hρ hf e0 => upon_call_below (f := 52) (by go_simp) (ob_all _ _ _ w' e2))) (by go_frame; rfl) (by simp only [List.nil_append, List.cons_append]; rfl) ?_
  refine walkT_is (wantedN rfl) (fun w' hC hd => tame_move _ (.inl rfl) rfl) (by go_frame; rfl) (by simp only [List.nil_append, List.cons_append]; rfl) ?_
  refine walkT_nil fun w3 hC3 _ => hK _ _ fun K3 hK3 => ?_
  have HG3 := Lib.hid (HG2.out.later hC3)
  have HT3 := Lib.hid (HT2.out.trans (Touch.of_below (X := inG p) hC3))
  clear cc0 cc1 hC3 c0 c1 HG2 HT2 BN2
  have hq := HP.out w3 HG3.out
  clear HP
  go_simp
  cases q with
  | none =>
    simp only [plV] at hq
    have HQ := Lib.hid hq
    clear hq
    refine HQ.out.mono ?_
    rintro e w4 ⟨rfl, hG, hR⟩
    have HG4 := Lib.hid hG
    have HT4 := Lib.hid (HT3.out.trans hR)
    clear hG hR
    refine hK3 _ _ ?_
    clear hK3 hK
    refine takes_is (.tuple #[.int .i64 0, .int .i64 0, .bool false]) rfl rfl (fun w => by go_simp) (by go_frame; rfl) ?_
    refine takes_is (.int .i64 0) rfl rfl (fun w => by go_simp) (by go_frame; rfl) ?_
    refine takes_is (.int .i64 0) rfl rfl (fun w => by go_simp) (by go_frame; rfl) ?_
    refine takes_is (.bool false) rfl rfl (fun w => by go_simp) (by go_frame; rfl) ?_
    refine takes_is (.int .i64 0) rfl rfl (fun w => by go_simp) (by go_frame; rfl) ?_
    refine takes_is (.int .i64 0) rfl rfl (fun w => by go_simp) (by go_frame; rfl) ?_
    refine takes_is (.bool false) rfl rfl (fun w => by go_simp) (by go_frame; rfl) ?_
    refine takes_nil ?_
    go_wp2_with fail
    go_ret3
    exact ⟨rfl, HG4.out.to rfl (by show s.m + 3 + 1 * plD c o = s.m + (3 + plD c o); omega), HT4.out⟩
  | some q =>
    simp only [plV] at hq
    have HQ := Lib.hid hq
    clear hq
    refine HQ.out.mono ?_
    rintro e w4 ⟨rfl, hG, hR⟩
    have HG4 := Lib.hid hG
    have HT4 := Lib.hid (HT3.out.trans hR)
    clear hG hR
    refine hK3 _ _ ?_
    clear hK3 hK
    refine takes_is (.tuple #[.int .i64 (q.1 : Int), .int .i64 (q.2 : Int), .bool true]) rfl rfl (fun w => by go_simp) (by go_frame; rfl) ?_
    refine takes_is (.int .i64 (q.1 : Int)) rfl rfl (fun w => by go_simp) (by go_frame; rfl) ?_
    refine takes_is (.int .i64 (q.2 : Int)) rfl rfl (fun w => by go_simp) (by go_frame; rfl) ?_
    refine takes_is (.bool true) rfl rfl (fun w => by go_simp) (by go_frame; rfl) ?_
    refine takes_is (.int .i64 (q.1 : Int)) rfl rfl (fun w => by go_simp) (by go_frame; rfl) ?_
    refine takes_is (.int .i64 (q.2 : Int)) rfl rfl (fun w => by go_simp) (by go_frame; rfl) ?_
    refine takes_is (.bool true) rfl rfl (fun w => by go_simp) (by go_frame; rfl) ?_
    refine takes_nil ?_
    go_wp2_with fail
    go_ret3
    exact ⟨rfl, HG4.out.to rfl (by show s.m + 3 + 1 * plD c o = s.m + (3 + plD c o); omega), HT4.out⟩

set_option maxHeartbeats 1000000 in
theorem ob_find1_out (hG : G w p c s) (H : HeapAt c s.zs pool os) (ho : o ∈ os) (i : Int) (hi : bel i o.nd = false) :
    Calls Try.prog 60 #[.pointer (some ⟨p.a, 0, none⟩), .int .i64 ((o.h : Int) + 1), .int .i64 1, .int .i64 i] w (GP w p c ⟨s.zs, s.m + 3⟩ (.tuple #[.int .i64 0, .int .i64 0, .int .i64 7])) := by
  have hmf : ∀ (fn : Fn) (first cap : Array Value) (w : World), (Instr.makeFunc fn first cap).run Try.prog w = .ok (.func fn first cap) w := fun _ _ _ _ => rfl
  have HL := Lib.hid (lens_yes hG H ho)
  have HG := Lib.hid hG
  have e1 := w64_ob hG.may (H.obs o ho).hlt
  have hb := bel_no hi
  clear hG H ho hi
  by_cases h0 : i < 0
  · clear hb
    go_enter Try.func60, Try.ntmps60
    have HT0 : Hid (Touch (inG p) w w) := Lib.hid (Touch.refl _ _)
    go_wp2_with fail
    refine (HL.out).mono ?_
    rintro e wm1 ⟨rfl, hG, hT⟩
    have HG1 := Lib.hid hG
    have HT1 : Hid (Touch (inG p) _ wm1) := Lib.hid (HT0.out.trans hT)
    clear hG hT
    go_wp2_with fail
    go_ret3
    exact ⟨rfl, HG1.out.alloc _, HT1.out.alloc _⟩
  · have h1 : i ≥ (o.nd : Int) := by omega
    clear hb
    go_enter Try.func60, Try.ntmps60
    have HT0 : Hid (Touch (inG p) w w) := Lib.hid (Touch.refl _ _)
    go_wp2_with fail
    refine (HL.out).mono ?_
    rintro e wm1 ⟨rfl, hG, hT⟩
    have HG1 := Lib.hid hG
    have HT1 : Hid (Touch (inG p) _ wm1) := Lib.hid (HT0.out.trans hT)
    clear hG hT
    go_wp2_with fail
    go_ret3
    exact ⟨rfl, HG1.out.alloc _, HT1.out.alloc _⟩

set_option maxHeartbeats 2000000 in
theorem ob_find1 (hG : G w p c s) (H : HeapAt c s.zs pool os) (ho : o ∈ os) (i : Nat) (hi : i < o.nd) :
    Calls Try.prog 60 #[.pointer (some ⟨p.a, 0, none⟩), .int .i64 ((o.h : Int) + 1), .int .i64 1, .int .i64 (i : Int)] w (GP w p c ⟨s.zs, s.m + (3 + plD c o)⟩ (findV (fieldP c o (o.np + i)))) := by
  have hmf : ∀ (fn : Fn) (first cap : Array Value) (w : World), (Instr.makeFunc fn first cap).run Try.prog w = .ok (.func fn first cap) w := fun _ _ _ _ => rfl
  have HL := Lib.hid (lens_yes hG H ho)
  have HG := Lib.hid hG
  have e1 := w64_ob hG.may (H.obs o ho).hlt
  have hsm := ob_small hG H ho
  have e2 : wrap64 ((o.np : Int) + (o.nd : Int)) = (o.f : Int) := by rw [w64_in (by omega)]; unfold Ob.f; omega
  have e4 : IntKind.i64.wrap (o.h : Int) = (o.h : Int) := by rw [IntWalk.i64_left, e1]
  have hi2 : (i : Int) + (o.np : Int) ≤ 200000 := by omega
  have h0 : ¬ (i : Int) < 0 := by omega
  have h1 : ¬ (i : Int) ≥ (o.nd : Int) := by omega
  have hif : o.np + i < o.f := by unfold Ob.f; omega
  have hP := fun w' (hG' : G w' p c ⟨s.zs, s.m + 3⟩) => ob_place (rdWord p c) ⟨s.zs, s.m + 3⟩ o (o.np + i) w' hG' (H.obs o ho) hif
  rw [show (((o.np + i : Nat)) : Int) = (i : Int) + (o.np : Int) from by omega] at hP
  have hfd := cfield1 (c.N : Int) (c.W : Int) (c.R : Int) (c.K : Int)
  generalize fieldP c o (o.np + i) = q at *
  have HP := Lib.hid hP
  clear hG H ho hi hsm hif hP
  go_enter Try.func60, Try.ntmps60
  have HT0 : Hid (Touch (inG p) w w) := Lib.hid (Touch.refl _ _)
  go_wp2_with fail
  refine (HL.out).mono ?_
  rintro e wm1 ⟨rfl, hG, hT⟩
  have HG1 := Lib.hid hG
  have HT1 : Hid (Touch (inG p) _ wm1) := Lib.hid (HT0.out.trans hT)
  clear hG hT
  have HG2 := Lib.hid (HG1.out.alloc (.cells #[.int .i64 (o.np : Int), .int .i64 (o.nd : Int)] 75))
  have BN2 := Lib.hid (Blk.new wm1 #[.int .i64 (o.np : Int), .int .i64 (o.nd : Int)] 75)
  have HT2 : Hid (Touch (inG p) w (wm1.alloc (.cells #[.int .i64 (o.np : Int), .int .i64 (o.nd : Int)] 75))) := Lib.hid (HT1.out.alloc _)
  have NG : Hid (¬ inG p wm1.heap.size) := Lib.hid (inG_new HG1.out)
  go_wp2_with fail
  generalize wm1.heap.size = n at *
  generalize wm1.alloc (.cells #[.int .i64 (o.np : Int), .int .i64 (o.nd : Int)] 75) = v1 at *
  have c0 : v1.cell? ⟨n, 0, none⟩ = some (.int .i64 (o.np : Int)) := BN2.out.cell 0 rfl
  have c1 : v1.cell? ⟨n, 1, none⟩ = some (.int .i64 (o.nd : Int)) := BN2.out.cell 1 rfl
  refine wp_loop_rounds 2 ?_
  rw [rounds_succ]
  go_wp2_with fail
  rw [rounds_succ]
  go_wp2_with fail
  have cc0 := fun w' (hC : Below v1.heap.size v1 w') => (show w'.cell? ⟨n, 0, none⟩ = some (.int .i64 (o.np : Int)) from (BN2.out.later hC).cell 0 rfl)
  have cc1 := fun w' (hC : Below v1.heap.size v1 w') => (show w'.cell? ⟨n, 1, none⟩ = some (.int .i64 (o.nd : Int)) from (BN2.out.later hC).cell 1 rfl)
  refine wp_region_tame_one [Fact.is (.pointer (some ⟨p.a, 0, none⟩)), Fact.is (.func (.func 55) #[.pointer (some ⟨p.a, 0, none⟩)] #[]), Fact.is (.pointer (some ⟨p.a, 0, none⟩)), Fact.is (.agg #[.int .i64 (c.N : Int), .int .i64 (c.W : Int), .int .i64 (c.R : Int), .int .i64 (c.K : Int)]), Fact.is (.int .i64 ((c.W : Int))), Fact.is (.int .i64 ((o.h : Int) + 1)), Fact.is (.int .i64 ((o.h : Int))), Fact.is (.agg #[.int .i64 (o.np : Int), .int .i64 (o.nd : Int)]), Fact.is (.int .i64 ((o.f : Int))), Fact.is (.int .i64 ((i : Int) + (o.np : Int)))] (by kernel_rfl) (by kernel_rfl) rfl rfl (by kernel_rfl) (by kernel_rfl) (fun _ _ _ _ _ h => h) (fun ops K2 hops hK => ?_)
  refine walkT_is (wantedN rfl) (fun w' hC hd => tame_move _ (.inl rfl) rfl) (by go_frame; rfl) (by simp only [List.nil_append, List.cons_append]; rfl) ?_
  refine walkT_is (wantedN rfl) (fun w' hC hd => tame_1 48 (.pointer (some ⟨p.a, 0, none⟩)) rfl (fun ρ hρ hf e0 => upon_is (by go_simp))) (by go_frame; rfl) (by simp only [List.nil_append, List.cons_append]; rfl) ?_
  refine walkT_is (wantedN rfl) (fun w' hC hd => tame_move _ (.inl rfl) rfl) (by go_frame; rfl) (by simp only [List.nil_append, List.cons_append]; rfl) ?_
  refine walkT_is (wantedN rfl) (fun w' hC hd => tame_1 50 (.pointer (some ⟨p.a, 0, none⟩)) rfl (fun ρ hρ hf e0 => upon_call_below (f := 46) (by go_simp) (gconfC p c _ w' (HG2.out.later hC)))) (by go_frame; rfl) (by simp only [List.nil_append, List.cons_append]; rfl) ?_
  refine walkT_is (wantedN rfl) (fun w' hC hd => tame_1 51 (.agg #[.int .i64 (c.N : Int), .int .i64 (c.W : Int), .int .i64 (c.R : Int), .int .i64 (c.K : Int)]) rfl (fun ρ hρ hf e0 => upon_is (by have hb0 := hfd; go_simp))) (by go_frame; rfl) (by simp only [List.nil_append, List.cons_append]; rfl) ?_
  refine walkT_is (wantedN rfl) (fun w' hC hd => tame_move _ (.inl rfl) rfl) (by go_frame; rfl) (by simp only [List.nil_append, List.cons_append]; rfl) ?_
  refine walkT_is (wantedN rfl) (fun w' hC hd => tame_1 53 (.int .i64 ((o.h : Int) + 1)) rfl (fun ρ hρ hf e0 => upon_is (by have hb0 := e4; go_simp))) (by go_frame; rfl) (by simp only [List.nil_append, List.cons_append]; rfl) ?_
  refine walkT_is (wantedN rfl) (fun w' hC hd => tame_1 11 (.pointer (some ⟨n, 0, none⟩)) rfl (fun ρ hρ hf e0 => upon_is (by have hc0 := cc0 w' hC; have hc1 := cc1 w' hC; go_simp))) (by go_frame; rfl) (by simp only [List.nil_append, List.cons_append]; rfl) ?_
  refine walkT_is (wantedN rfl) (fun w' hC hd => tame_1 55 (.agg #[.int .i64 (o.np : Int), .int .i64 (o.nd : Int)]) rfl (fun ρ hρ hf e0 => upon_call_below (f := 52) (by go_simp) (ob_all _ _ _ w' e2))) (by go_frame; rfl) (by simp only [List.nil_append, List.cons_append]; rfl) ?_
  refine walkT_is (wantedN rfl) (fun w' hC hd => tame_move _ (.inl rfl) rfl) (by go_frame; rfl) (by simp only [List.nil_append, List.cons_append]; rfl) ?_
  refine walkT_nil fun w3 hC3 _ => hK _ _ fun K3 hK3 => ?_
  have HG3 := Lib.hid (HG2.out.later hC3)
  have HT3 := Lib.hid (HT2.out.trans (Touch.of_below (X := inG p) hC3))
  clear cc0 cc1 hC3 c0 c1 HG2 HT2 BN2
  have hq := HP.out w3 HG3.out
  clear HP
  go_simp
  cases q with
  | none =>
    simp only [plV] at hq
    have HQ := Lib.hid hq
    clear hq
    refine HQ.out.mono ?_
    rintro e w4 ⟨rfl, hG, hR⟩
    have HG4 := Lib.hid hG
    have HT4 := Lib.hid (HT3.out.trans hR)
    clear hG hR
    refine hK3 _ _ ?_
    clear hK3 hK
    refine takes_is (.tuple #[.int .i64 0, .int .i64 0, .bool false]) rfl rfl (fun w => by go_simp) (by go_frame; rfl) ?_
    refine takes_is (.int .i64 0) rfl rfl (fun w => by go_simp) (by go_frame; rfl) ?_
    refine takes_is (.int .i64 0) rfl rfl (fun w => by go_simp) (by go_frame; rfl) ?_
    refine takes_is (.bool false) rfl rfl (fun w => by go_simp) (by go_frame; rfl) ?_
    refine takes_is (.int .i64 0) rfl rfl (fun w => by go_simp) (by go_frame; rfl) ?_
    refine takes_is (.int .i64 0) rfl rfl (fun w => by go_simp) (by go_frame; rfl) ?_
    refine takes_is (.bool false) rfl rfl (fun w => by go_simp) (by go_frame; rfl) ?_
    refine takes_nil ?_
    go_wp2_with fail
    go_ret3
    exact ⟨rfl, HG4.out.to rfl (by show s.m + 3 + 1 * plD c o = s.m + (3 + plD c o); omega), HT4.out⟩
  | some q =>
    simp only [plV] at hq
    have HQ := Lib.hid hq
    clear hq
    refine HQ.out.mono ?_
    rintro e w4 ⟨rfl, hG, hR⟩
    have HG4 := Lib.hid hG
    have HT4 := Lib.hid (HT3.out.trans hR)
    clear hG hR
    refine hK3 _ _ ?_
    clear hK3 hK
    refine takes_is (.tuple #[.int .i64 (q.1 : Int), .int .i64 (q.2 : Int), .bool true]) rfl rfl (fun w => by go_simp) (by go_frame; rfl) ?_
    refine takes_is (.int .i64 (q.1 : Int)) rfl rfl (fun w => by go_simp) (by go_frame; rfl) ?_
    refine takes_is (.int .i64 (q.2 : Int)) rfl rfl (fun w => by go_simp) (by go_frame; rfl) ?_
    refine takes_is (.bool true) rfl rfl (fun w => by go_simp) (by go_frame; rfl) ?_
    refine takes_is (.int .i64 (q.1 : Int)) rfl rfl (fun w => by go_simp) (by go_frame; rfl) ?_
    refine takes_is (.int .i64 (q.2 : Int)) rfl rfl (fun w => by go_simp) (by go_frame; rfl) ?_
    refine takes_is (.bool true) rfl rfl (fun w => by go_simp) (by go_frame; rfl) ?_
    refine takes_nil ?_
    go_wp2_with fail
    go_ret3
    exact ⟨rfl, HG4.out.to rfl (by show s.m + 3 + 1 * plD c o = s.m + (3 + plD c o); omega), HT4.out⟩
end
end Go.Proofs.Ytgmbamehmecnlaa.Pk
