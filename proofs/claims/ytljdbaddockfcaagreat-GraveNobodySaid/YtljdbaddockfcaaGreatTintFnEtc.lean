/-
  Texts laid together: TintFn, TintFn2, TintFn3, TintFn4, TintFns, GravRep.
-/
import Derived.Test.YtljdbaddockfcaaGreatRingFnEtc
import Derived.Test.YtljdbaddockfcaaGreatRefMkEtc
import Derived.Test.YtljdbaddockfcaaGreatObjFn4Etc
import Derived.Test.YtljdbaddockfcaaGreatRingFn2
import Derived.Deep.RegionHeld3
import Derived.Deep.RegionWith
import Derived.BigRegion
/-
  What the functions of package tint return.
-/
namespace Go.Proofs.YtljdbaddockfcaaGreat.Pk
open Go.RowKit
set_option linter.unusedVariables false
set_option linter.unusedSimpArgs false
set_option maxRecDepth 100000

theorem or_tag {x y : Int} (h0 : 0 ≤ x) (h1 : x ≤ 4294967295) (g0 : 0 ≤ y) (g1 : y ≤ 4294967295) : bits .or .u32 (bits .andNot .u32 x x) y = y := by
  rw [nand_self h0 h1, or_none g0 g1]
section
variable {p : Pl} {c : Cf} {s : St} {pool : List Nat} {os : List Ob} {o : Ob} {r : Int} {w : World}
/-! ### Is, of an object and of none -/
theorem tt_is_yes (hG : G w p c s) (H : HeapAt c s.zs pool os) (ho : o ∈ os) : Calls Tryz.prog 14 #[.pointer (some ⟨p.a, 0, none⟩), .int .i64 ((o.h : Int) + 1)] w (GP w p c ⟨s.zs, s.m + 1⟩ (.bool true)) := by
  have hA := H.obs o ho
  have hm := hG.may
  have hW := hm.w
  have h := ob_is hG ((o.h : Int) + 1)
  rw [isB H hm (H.in64 hm ho), H.obAt ho, prev_ob hm hA.hlt, show wordA c (o.h : Int) 0 = some (adr c o.h 0) from adr_word hA.hlt (v := 0) (by omega)] at h
  exact h
theorem tt_is_no (hG : G w p c s) (H : HeapAt c s.zs pool os) (hr : In64 r) (ho : obAt os r = none) : Calls Tryz.prog 14 #[.pointer (some ⟨p.a, 0, none⟩), .int .i64 r] w (GP w p c ⟨s.zs, s.m + askN (wordA c (prev r) 0)⟩ (.bool false)) := by
  have h := ob_is hG r
  rw [isB H hG.may hr, ho, Nat.one_mul] at h
  exact h

/-! ### The registers -/
theorem tt_Parity (hG : G w p c s) (y : Int) (hy : nth s.zs 10 = y) : Calls Tryz.prog 39 #[.pointer (some ⟨p.a, 0, none⟩)] w (GP w p c ⟨s.zs, s.m + 1⟩ (.int .i64 y)) := by
  have HG := Lib.hid hG
  have HY := Lib.hid hy
  clear hG hy
  go_enter Tryz.func39, Tryz.ntmps39
  have HT0 : Hid (Touch (inG p) w w) := Lib.hid (Touch.refl _ _)
  go_wp2_with fail
  refine (regR p c s 10 _ y _ HG.out (by omega) rfl HY.out).mono ?_
  rintro e wm1 ⟨rfl, hG, hT⟩
  have HG1 := Lib.hid hG
  have HT1 : Hid (Touch (inG p) _ wm1) := Lib.hid (HT0.out.trans hT)
  clear hG hT
  go_wp2_with fail
  go_ret
  exact ⟨rfl, HG1.out, HT1.out⟩
theorem tt_Phase (hG : G w p c s) (y : Int) (hy : nth s.zs 11 = y) : Calls Tryz.prog 40 #[.pointer (some ⟨p.a, 0, none⟩)] w (GP w p c ⟨s.zs, s.m + 1⟩ (.int .i64 y)) := by
  have HG := Lib.hid hG
  have HY := Lib.hid hy
  clear hG hy
  go_enter Tryz.func40, Tryz.ntmps40
  have HT0 : Hid (Touch (inG p) w w) := Lib.hid (Touch.refl _ _)
  go_wp2_with fail
  refine (regR p c s 11 _ y _ HG.out (by omega) rfl HY.out).mono ?_
  rintro e wm1 ⟨rfl, hG, hT⟩
  have HG1 := Lib.hid hG
  have HT1 : Hid (Touch (inG p) _ wm1) := Lib.hid (HT0.out.trans hT)
  clear hG hT
  go_wp2_with fail
  go_ret
  exact ⟨rfl, HG1.out, HT1.out⟩
theorem tt_At (hG : G w p c s) (y z : Int) (hy : nth s.zs 12 = y) (hz : nth s.zs 13 = z) : Calls Tryz.prog 38 #[.pointer (some ⟨p.a, 0, none⟩)] w (GP w p c ⟨s.zs, s.m + 2⟩ (.tuple #[.int .i64 y, .int .i64 z])) := by
  have HG := Lib.hid hG
  have HY := Lib.hid hy
  have HZ := Lib.hid hz
  clear hG hy hz
  go_enter Tryz.func38, Tryz.ntmps38
  have HT0 : Hid (Touch (inG p) w w) := Lib.hid (Touch.refl _ _)
  go_wp2_with fail
  refine (regR p c s 12 _ y _ HG.out (by omega) rfl HY.out).mono ?_
  rintro e wm1 ⟨rfl, hG, hT⟩
  have HG1 := Lib.hid hG
  have HT1 : Hid (Touch (inG p) _ wm1) := Lib.hid (HT0.out.trans hT)
  clear hG hT
  go_wp2_with fail
  refine (regR p c _ 13 _ z _ HG1.out (by omega) rfl HZ.out).mono ?_
  rintro e wm2 ⟨rfl, hG, hT⟩
  have HG2 := Lib.hid hG
  have HT2 : Hid (Touch (inG p) _ wm2) := Lib.hid (HT1.out.trans hT)
  clear hG hT
  go_wp2_with fail
  go_ret2
  exact ⟨rfl, HG2.out, HT2.out⟩
theorem tt_fits (v : Int) (w : World) : Calls Tryz.prog 97 #[.int .i64 v] w fun e w' => e = .returned (.bool (decide (0 ≤ v ∧ v ≤ 4294967295))) ∧ w = w' := by
  by_cases h0 : 0 ≤ v
  · have E : Hid (decide (v ≤ 4294967295) = decide (0 ≤ v ∧ v ≤ 4294967295)) := Lib.hid (by simp [h0])
    go_enter Tryz.func97, Tryz.ntmps97
    go_wp2_with fail
    go_ret
    exact ⟨ret_bool E.out, rfl⟩
  · have E : Hid (false = (decide (0 ≤ v) && decide (v ≤ 4294967295))) := Lib.hid (by simp [h0])
    go_enter Tryz.func97, Tryz.ntmps97
    go_wp2_with fail
    go_ret
    exact ⟨ret_bool E.out, rfl⟩
/-! ### A tag is read -/
theorem tt_tag_no (hG : G w p c s) (H : HeapAt c s.zs pool os) (hr : In64 r) (ho : obAt os r = none) : Calls Tryz.prog 63 #[.pointer (some ⟨p.a, 0, none⟩), .int .i64 r] w (GP w p c ⟨s.zs, s.m + askN (wordA c (prev r) 0)⟩ (.tuple #[.agg #[.int .i64 0, .int .i64 0, .int .i64 0, .int .i64 0, .int .i64 0, .int .i64 0, .int .i64 0], .bool false])) := by
  have HI := Lib.hid (fun (w' : World) (hG' : G w' p c s) => tt_is_no hG' H hr ho)
  have HG := Lib.hid (hG.alloc (.cells #[.int .i64 0, .int .i64 0, .int .i64 0, .int .i64 0, .int .i64 0, .int .i64 0, .int .i64 0] 86))
  have BR := Lib.hid (Blk.new w #[.int .i64 0, .int .i64 0, .int .i64 0, .int .i64 0, .int .i64 0, .int .i64 0, .int .i64 0] 86)
  have HTa : Hid (Touch (inG p) w (w.alloc (.cells #[.int .i64 0, .int .i64 0, .int .i64 0, .int .i64 0, .int .i64 0, .int .i64 0, .int .i64 0] 86))) := Lib.hid (Touch.of_below (below_new w _))
  have NO : Hid (∀ i, w.heap.size ≤ i → ¬ ofG p i) := Lib.hid (fun i hi hx => by have := hG.ofG_lt hx; omega)
  clear hG H hr ho
  go_enter Tryz.func63, Tryz.ntmps63
  go_wp2_with fail
  generalize w.alloc (.cells #[.int .i64 0, .int .i64 0, .int .i64 0, .int .i64 0, .int .i64 0, .int .i64 0, .int .i64 0] 86) = w0 at *
  have HT0 : Hid (Touch (inG p) w0 w0) := Lib.hid (Touch.refl _ _)
  refine (HI.out _ HG.out).mono ?_
  rintro e wm1 ⟨rfl, hG, hT⟩
  have HG1 := Lib.hid hG
  have HT1 : Hid (Touch (inG p) _ wm1) := Lib.hid (HT0.out.trans hT)
  have BR1 := Lib.hid (BR.out.touch hT (fun hx => NO.out _ (Nat.le_refl _) (Or.inr hx)))
  clear hG hT
  have f0 := BR1.out.free 0
  have r0 := BR1.out.cell 0 rfl
  have f1 := BR1.out.free 1
  have r1 := BR1.out.cell 1 rfl
  have f2 := BR1.out.free 2
  have r2 := BR1.out.cell 2 rfl
  have f3 := BR1.out.free 3
  have r3 := BR1.out.cell 3 rfl
  have f4 := BR1.out.free 4
  have r4 := BR1.out.cell 4 rfl
  have f5 := BR1.out.free 5
  have r5 := BR1.out.cell 5 rfl
  have f6 := BR1.out.free 6
  have r6 := BR1.out.cell 6 rfl
  go_wp2_with fail
  exact bodyPost_ret (v := .tuple #[.agg #[.int .i64 0, .int .i64 0, .int .i64 0, .int .i64 0, .int .i64 0, .int .i64 0, .int .i64 0], .bool false]) (by simp [results, Tryz.results63, go_sem, r0, r1, r2, r3, r4, r5, r6]) rfl ⟨rfl, HG1.out.touch (X := fun i => w.heap.size ≤ i) ((((((((Touch.refl _ _).setCell (p := ⟨w.heap.size, 0, none⟩) (fun _ => Nat.le_refl _) _).setCell (p := ⟨w.heap.size, 1, none⟩) (fun _ => Nat.le_refl _) _).setCell (p := ⟨w.heap.size, 2, none⟩) (fun _ => Nat.le_refl _) _).setCell (p := ⟨w.heap.size, 3, none⟩) (fun _ => Nat.le_refl _) _).setCell (p := ⟨w.heap.size, 4, none⟩) (fun _ => Nat.le_refl _) _).setCell (p := ⟨w.heap.size, 5, none⟩) (fun _ => Nat.le_refl _) _).setCell (p := ⟨w.heap.size, 6, none⟩) (fun _ => Nat.le_refl _) _) (fun i hi e => NO.out i e hi), ((((((((HTa.out.trans HT1.out).setCell (p := ⟨w.heap.size, 0, none⟩) (fun h => absurd h (Nat.lt_irrefl _)) _).setCell (p := ⟨w.heap.size, 1, none⟩) (fun h => absurd h (Nat.lt_irrefl _)) _).setCell (p := ⟨w.heap.size, 2, none⟩) (fun h => absurd h (Nat.lt_irrefl _)) _).setCell (p := ⟨w.heap.size, 3, none⟩) (fun h => absurd h (Nat.lt_irrefl _)) _).setCell (p := ⟨w.heap.size, 4, none⟩) (fun h => absurd h (Nat.lt_irrefl _)) _).setCell (p := ⟨w.heap.size, 5, none⟩) (fun h => absurd h (Nat.lt_irrefl _)) _).setCell (p := ⟨w.heap.size, 6, none⟩) (fun h => absurd h (Nat.lt_irrefl _)) _)⟩
theorem tt_tag_yes (hG : G w p c s) (H : HeapAt c s.zs pool os) (ho : o ∈ os) (x : Int) (hx : nth s.zs (adr c o.h 0) = x) : Calls Tryz.prog 63 #[.pointer (some ⟨p.a, 0, none⟩), .int .i64 ((o.h : Int) + 1)] w (GP w p c ⟨s.zs, s.m + 2⟩ (.tuple #[.agg #[.int .i64 (uK x), .int .i64 (uC x), .int .i64 (uN x), .int .i64 (uS x), .int .i64 (uD x), .int .i64 (uG x), .int .i64 (uO x)], .bool true])) := by
  have HI := Lib.hid (fun (w' : World) (hG' : G w' p c s) => tt_is_yes hG' H ho)
  have HG := Lib.hid (hG.alloc (.cells #[.int .i64 0, .int .i64 0, .int .i64 0, .int .i64 0, .int .i64 0, .int .i64 0, .int .i64 0] 86))
  have BR := Lib.hid (Blk.new w #[.int .i64 0, .int .i64 0, .int .i64 0, .int .i64 0, .int .i64 0, .int .i64 0, .int .i64 0] 86)
  have HTa : Hid (Touch (inG p) w (w.alloc (.cells #[.int .i64 0, .int .i64 0, .int .i64 0, .int .i64 0, .int .i64 0, .int .i64 0, .int .i64 0] 86))) := Lib.hid (Touch.of_below (below_new w _))
  have NO : Hid (∀ i, w.heap.size ≤ i → ¬ ofG p i) := Lib.hid (fun i hi hx => by have := hG.ofG_lt hx; omega)
  have hA := H.obs o ho
  have hW := hG.may.w
  have HB := Lib.hid hA.hlt
  have HV : Hid (0 < c.W) := Lib.hid (by omega)
  have HX := Lib.hid hx
  have e1 := w64_ob hG.may hA.hlt
  have hbd := hA.tok.bd
  rw [hx] at hbd
  have HN0 : Hid (0 ≤ x) := Lib.hid hbd.1
  have HN1 : Hid (x ≤ 4294967295) := Lib.hid (by omega)
  clear hG H ho hA hW hx hbd
  go_enter Tryz.func63, Tryz.ntmps63
  go_wp2_with fail
  generalize w.alloc (.cells #[.int .i64 0, .int .i64 0, .int .i64 0, .int .i64 0, .int .i64 0, .int .i64 0, .int .i64 0] 86) = w0 at *
  have HT0 : Hid (Touch (inG p) w0 w0) := Lib.hid (Touch.refl _ _)
  refine (HI.out _ HG.out).mono ?_
  rintro e wm1 ⟨rfl, hG, hT⟩
  have HG1 := Lib.hid hG
  have HT1 : Hid (Touch (inG p) _ wm1) := Lib.hid (HT0.out.trans hT)
  have BR1 := Lib.hid (BR.out.touch hT (fun hx => NO.out _ (Nat.le_refl _) (Or.inr hx)))
  clear hG hT
  go_wp2_with fail
  refine (wordW p c _ o.h 0 _ _ x _ HG1.out HB.out HV.out rfl rfl HX.out).mono ?_
  rintro e wm2 ⟨rfl, hG, hT⟩
  have HG2 := Lib.hid hG
  have HT2 : Hid (Touch (inG p) _ wm2) := Lib.hid (HT1.out.trans hT)
  have BR2 := Lib.hid (BR1.out.touch hT (fun hx => NO.out _ (Nat.le_refl _) (Or.inr hx)))
  clear hG hT
  go_wp2_with fail
  refine (tunpack_any x _ HN0.out HN1.out).mono ?_
  rintro e wm3 ⟨rfl, hb⟩
  have HG3 := Lib.hid (HG2.out.later hb)
  have HT3 : Hid (Touch (inG p) _ wm3) := Lib.hid (HT2.out.trans (Touch.of_below hb))
  have BR3 := Lib.hid (BR2.out.later hb)
  clear hb
  have f0 := BR3.out.free 0
  have r0 := BR3.out.cell 0 rfl
  have f1 := BR3.out.free 1
  have r1 := BR3.out.cell 1 rfl
  have f2 := BR3.out.free 2
  have r2 := BR3.out.cell 2 rfl
  have f3 := BR3.out.free 3
  have r3 := BR3.out.cell 3 rfl
  have f4 := BR3.out.free 4
  have r4 := BR3.out.cell 4 rfl
  have f5 := BR3.out.free 5
  have r5 := BR3.out.cell 5 rfl
  have f6 := BR3.out.free 6
  have r6 := BR3.out.cell 6 rfl
  go_wp2_with fail
  exact bodyPost_ret (v := .tuple #[.agg #[.int .i64 (uK x), .int .i64 (uC x), .int .i64 (uN x), .int .i64 (uS x), .int .i64 (uD x), .int .i64 (uG x), .int .i64 (uO x)], .bool true]) (by simp [results, Tryz.results63, go_sem, r0, r1, r2, r3, r4, r5, r6]) rfl ⟨rfl, HG3.out.touch (X := fun i => w.heap.size ≤ i) ((((((((Touch.refl _ _).setCell (p := ⟨w.heap.size, 0, none⟩) (fun _ => Nat.le_refl _) _).setCell (p := ⟨w.heap.size, 1, none⟩) (fun _ => Nat.le_refl _) _).setCell (p := ⟨w.heap.size, 2, none⟩) (fun _ => Nat.le_refl _) _).setCell (p := ⟨w.heap.size, 3, none⟩) (fun _ => Nat.le_refl _) _).setCell (p := ⟨w.heap.size, 4, none⟩) (fun _ => Nat.le_refl _) _).setCell (p := ⟨w.heap.size, 5, none⟩) (fun _ => Nat.le_refl _) _).setCell (p := ⟨w.heap.size, 6, none⟩) (fun _ => Nat.le_refl _) _) (fun i hi e => NO.out i e hi), ((((((((HTa.out.trans HT3.out).setCell (p := ⟨w.heap.size, 0, none⟩) (fun h => absurd h (Nat.lt_irrefl _)) _).setCell (p := ⟨w.heap.size, 1, none⟩) (fun h => absurd h (Nat.lt_irrefl _)) _).setCell (p := ⟨w.heap.size, 2, none⟩) (fun h => absurd h (Nat.lt_irrefl _)) _).setCell (p := ⟨w.heap.size, 3, none⟩) (fun h => absurd h (Nat.lt_irrefl _)) _).setCell (p := ⟨w.heap.size, 4, none⟩) (fun h => absurd h (Nat.lt_irrefl _)) _).setCell (p := ⟨w.heap.size, 5, none⟩) (fun h => absurd h (Nat.lt_irrefl _)) _).setCell (p := ⟨w.heap.size, 6, none⟩) (fun h => absurd h (Nat.lt_irrefl _)) _)⟩
end
end Go.Proofs.YtljdbaddockfcaaGreat.Pk

/-
  What the functions of package tint return: a tag is changed.
-/
namespace Go.Proofs.YtljdbaddockfcaaGreat.Pk
open Go.RowKit
set_option linter.unusedVariables false
set_option linter.unusedSimpArgs false
set_option maxRecDepth 100000

theorem Touch.newer {X : Nat → Prop} {a w w' : World} {b : Nat} (h : Touch X a w) (t : Touch (fun i => i = b) w w') (hb : a.heap.size ≤ b) : Touch X a w' := by
  have h1 : Touch (fun i => X i ∨ i = b) a w := h.mono (fun _ _ h => .inl h)
  have h2 : Touch (fun i => X i ∨ i = b) w w' := t.mono (fun _ _ h => .inr h)
  exact (h1.trans h2).mono (fun k hk hx => by rcases hx with hx | rfl; exact hx; omega)
/-! ### The closures -/
theorem tk_Kill (k c n s d g : Int) (b : Nat) (w : World) (hb : Blk w b #[.int .i64 k, .int .i64 c, .int .i64 n, .int .i64 s, .int .i64 d, .int .i64 g, .int .i64 0] 86) (hd : d = 0) : Calls Tryz.prog 104 #[.pointer (some ⟨b, 0, none⟩)] w fun e w' => e = .returned (.bool true) ∧ Blk w' b #[.int .i64 k, .int .i64 c, .int .i64 n, .int .i64 s, .int .i64 1, .int .i64 g, .int .i64 0] 86 ∧ Touch (fun i => i = b) w w' := by
  have c1 := hb.cell 1 rfl
  have f1 := hb.free 1
  have c2 := hb.cell 2 rfl
  have f2 := hb.free 2
  have c3 := hb.cell 3 rfl
  have f3 := hb.free 3
  have c4 := hb.cell 4 rfl
  have f4 := hb.free 4
  have HB := Lib.hid hb
  clear hb
  subst hd
  go_enter Tryz.func104, Tryz.ntmps104
  go_wp2_with fail
  go_ret
  exact ⟨rfl, HB.out.put 4 (.int .i64 1) rfl, (Touch.refl (fun i => i = b) w).setCell (p := ⟨b, 4, none⟩) (fun _ => rfl) _⟩
theorem tk_Kill_no (k c n s d g : Int) (b : Nat) (w : World) (hb : Blk w b #[.int .i64 k, .int .i64 c, .int .i64 n, .int .i64 s, .int .i64 d, .int .i64 g, .int .i64 0] 86) (hd : d = 1) : Calls Tryz.prog 104 #[.pointer (some ⟨b, 0, none⟩)] w fun e w' => e = .returned (.bool false) ∧ Blk w' b #[.int .i64 k, .int .i64 c, .int .i64 n, .int .i64 s, .int .i64 d, .int .i64 g, .int .i64 0] 86 ∧ Touch (fun i => i = b) w w' := by
  have c1 := hb.cell 1 rfl
  have f1 := hb.free 1
  have c2 := hb.cell 2 rfl
  have f2 := hb.free 2
  have c3 := hb.cell 3 rfl
  have f3 := hb.free 3
  have c4 := hb.cell 4 rfl
  have f4 := hb.free 4
  have HB := Lib.hid hb
  clear hb
  subst hd
  go_enter Tryz.func104, Tryz.ntmps104
  go_wp2_with fail
  go_ret
  exact ⟨rfl, HB.out, Touch.refl _ _⟩
section
variable {p : Pl} {c : Cf} {s : St} {pool : List Nat} {os : List Ob} {o : Ob} {r : Int} {w : World}
/-! ### A tag is changed -/
theorem tc_no (V : Value) (hG : G w p c s) (H : HeapAt c s.zs pool os) (hr : In64 r) (ho : obAt os r = none) : Calls Tryz.prog 98 #[.pointer (some ⟨p.a, 0, none⟩), .int .i64 r, V] w (GP w p c ⟨s.zs, s.m + askN (wordA c (prev r) 0)⟩ (.bool false)) := by
  have HI := Lib.hid (tt_is_no hG H hr ho)
  have HG := Lib.hid hG
  clear hG H hr ho
  go_enter Tryz.func98, Tryz.ntmps98
  have HT0 : Hid (Touch (inG p) w w) := Lib.hid (Touch.refl _ _)
  go_wp2_with fail
  refine (HI.out).mono ?_
  rintro e wm1 ⟨rfl, hG, hT⟩
  have HG1 := Lib.hid hG
  have HT1 : Hid (Touch (inG p) _ wm1) := Lib.hid (HT0.out.trans hT)
  clear hG hT
  go_wp2_with fail
  go_ret
  exact ⟨rfl, HG1.out, HT1.out⟩
theorem tc_yes0 (F : FuncId) (hE : ∀ (args : Array Value) (w : World), (callFunc F args).run Tryz.prog w = .ok (.enter F args) w) (hG : G w p c s) (H : HeapAt c s.zs pool os) (ho : o ∈ os) (x : Int) (hx : nth s.zs (adr c o.h 0) = x) (c1 n1 s1 d1 : Int) (hc : c1 = 0 ∨ c1 = 1) (hn : n1 = 0 ∨ n1 = 1) (hs : s1 = 0 ∨ s1 = 1) (hd : d1 = 0 ∨ d1 = 1)
    (hF : ∀ (w' : World) (b : Nat), Blk w' b #[.int .i64 (uK x), .int .i64 (uC x), .int .i64 (uN x), .int .i64 (uS x), .int .i64 (uD x), .int .i64 (uG x), .int .i64 0] 86 → Calls Tryz.prog F #[.pointer (some ⟨b, 0, none⟩)] w' fun e w'' => e = .returned (.bool true) ∧ Blk w'' b #[.int .i64 (uK x), .int .i64 c1, .int .i64 n1, .int .i64 s1, .int .i64 d1, .int .i64 (uG x), .int .i64 0] 86 ∧ Touch (fun i => i = b) w' w'') :
    Calls Tryz.prog 98 #[.pointer (some ⟨p.a, 0, none⟩), .int .i64 ((o.h : Int) + 1), .func (.func F) #[] #[]] w (GP w p c ⟨s.zs.set (adr c o.h 0) (nTag x c1 n1 s1 d1), s.m + 3⟩ (.bool true)) := by
  have HI := Lib.hid (tt_is_yes hG H ho)
  have HG := Lib.hid hG
  have HF := Lib.hid hF
  have NO : Hid (∀ i, w.heap.size ≤ i → ¬ ofG p i) := Lib.hid (fun i hi hx => by have := hG.ofG_lt hx; omega)
  have hA := H.obs o ho
  have hW := hG.may.w
  have HB := Lib.hid hA.hlt
  have HV : Hid (0 < c.W) := Lib.hid (by omega)
  have HX := Lib.hid hx
  have e1 := w64_ob hG.may hA.hlt
  have htk := hA.tok
  have hhd := hA.head
  rw [hx] at htk hhd
  have hbd := htk.bd
  have HN0 : Hid (0 ≤ x) := Lib.hid hbd.1
  have HN1 : Hid (x ≤ 4294967295) := Lib.hid (by omega)
  have hu0 : uO x = 0 := by
    have hr := htk.1
    unfold RightT at hr
    unfold HeadT at hhd
    omega
  have HR : Hid (rightB (uK x) (uC x) (uN x) (uS x) (uD x) (uG x) 0 = true) := Lib.hid (by
    have hr := htk.1
    rw [hu0] at hr
    exact rightB_mk hr)
  have EP : Hid (packI (uK x) (uC x) (uN x) (uS x) (uD x) (uG x) 0 = x) := Lib.hid (by
    have h := htk.pack
    rw [hu0] at h
    exact h)
  have HR2 : Hid (rightB (uK x) c1 n1 s1 d1 (uG x) 0 = true) := Lib.hid (rightB_mk (nTag_right htk hhd hc hn hs hd))
  have hok := nTag_ok htk hhd hc hn hs hd
  obtain ⟨y, hy⟩ : ∃ y, y = nTag x c1 n1 s1 d1 := ⟨_, rfl⟩
  have EY : Hid (packI (uK x) c1 n1 s1 d1 (uG x) 0 = y) := Lib.hid hy.symm
  have hy0 : 0 ≤ y := by rw [hy]; exact hok.2.2.2.2.2.2.2.1
  have hy1 : y ≤ 4294967295 := by rw [hy]; exact hok.2.2.2.2.2.2.2.2
  have eor := or_tag HN0.out HN1.out hy0 hy1
  have HY0 := Lib.hid hy0
  have HY1 := Lib.hid hy1
  rw [← hy]
  clear hok hy hc hn hs hd hy0 hy1
  clear hG H ho hA hW hx hbd htk hhd hu0 hF
  go_enter Tryz.func98, Tryz.ntmps98
  have HT0 : Hid (Touch (inG p) w w) := Lib.hid (Touch.refl _ _)
  go_wp2_with fail
  refine (HI.out).mono ?_
  rintro e wm1 ⟨rfl, hG, hT⟩
  have HG1 := Lib.hid hG
  have HT1 : Hid (Touch (inG p) _ wm1) := Lib.hid (HT0.out.trans hT)
  clear hG hT
  go_wp2_with fail
  refine (wordW p c _ o.h 0 _ _ x _ HG1.out HB.out HV.out rfl rfl HX.out).mono ?_
  rintro e wm2 ⟨rfl, hG, hT⟩
  have HG2 := Lib.hid hG
  have HT2 : Hid (Touch (inG p) _ wm2) := Lib.hid (HT1.out.trans hT)
  clear hG hT
  go_wp2_with fail
  refine (tunpack_any x _ HN0.out HN1.out).mono ?_
  rintro e wm3 ⟨rfl, hb⟩
  have HG3 := Lib.hid (HG2.out.later hb)
  have HT3 : Hid (Touch (inG p) _ wm3) := Lib.hid (HT2.out.trans (Touch.of_below hb))
  clear hb
  go_wp2_with fail
  have HGa := Lib.hid (HG3.out.alloc (.cells #[.int .i64 (uK x), .int .i64 (uC x), .int .i64 (uN x), .int .i64 (uS x), .int .i64 (uD x), .int .i64 (uG x), .int .i64 0] 86))
  have HTa := Lib.hid (HT3.out.alloc (.cells #[.int .i64 (uK x), .int .i64 (uC x), .int .i64 (uN x), .int .i64 (uS x), .int .i64 (uD x), .int .i64 (uG x), .int .i64 0] 86))
  have HTB := Lib.hid (Blk.new wm3 #[.int .i64 (uK x), .int .i64 (uC x), .int .i64 (uN x), .int .i64 (uS x), .int .i64 (uD x), .int .i64 (uG x), .int .i64 0] 86)
  have HS3 : Hid (w.heap.size ≤ wm3.heap.size) := Lib.hid HT3.out.size
  generalize wm3.alloc (.cells #[.int .i64 (uK x), .int .i64 (uC x), .int .i64 (uN x), .int .i64 (uS x), .int .i64 (uD x), .int .i64 (uG x), .int .i64 0] 86) = v3 at *
  generalize wm3.heap.size = bq at *
  have t0 := HTB.out.cell 0 rfl
  have t1 := HTB.out.cell 1 rfl
  have t2 := HTB.out.cell 2 rfl
  have t3 := HTB.out.cell 3 rfl
  have t4 := HTB.out.cell 4 rfl
  have t5 := HTB.out.cell 5 rfl
  have t6 := HTB.out.cell 6 rfl
  go_wp2_with fail
  refine (tpack_yes (uK x) (uC x) (uN x) (uS x) (uD x) (uG x) 0 _ HR.out).mono ?_
  rw [EP.out]
  rintro e wm4 ⟨rfl, hb⟩
  have HG4 := Lib.hid (HGa.out.later hb)
  have HT4 : Hid (Touch (inG p) _ wm4) := Lib.hid (HTa.out.trans (Touch.of_below hb))
  have HTB4 := Lib.hid (HTB.out.later hb)
  clear hb
  clear t0 t1 t2 t3 t4 t5 t6
  go_wp2_with fail
  refine (HF.out _ bq HTB4.out).mono ?_
  rintro e v5 ⟨rfl, hB, hT⟩
  have HGb := Lib.hid (HG4.out.touch hT (fun i hi e => NO.out i (by have := HS3.out; omega) hi))
  have HTb := Lib.hid (HT4.out.newer hT HS3.out)
  have HTBb := Lib.hid hB
  clear hB hT
  have t0 := HTBb.out.cell 0 rfl
  have t1 := HTBb.out.cell 1 rfl
  have t2 := HTBb.out.cell 2 rfl
  have t3 := HTBb.out.cell 3 rfl
  have t4 := HTBb.out.cell 4 rfl
  have t5 := HTBb.out.cell 5 rfl
  have t6 := HTBb.out.cell 6 rfl
  go_wp2_with fail
  refine (tpack_yes (uK x) c1 n1 s1 d1 (uG x) 0 _ HR2.out).mono ?_
  rw [EY.out]
  rintro e wm5 ⟨rfl, hb⟩
  have HG5 := Lib.hid (HGb.out.later hb)
  have HT5 : Hid (Touch (inG p) _ wm5) := Lib.hid (HTb.out.trans (Touch.of_below hb))
  clear hb
  clear t0 t1 t2 t3 t4 t5 t6
  go_wp2_with fail
  refine (setwordW p c _ o.h 0 _ _ y _ HG5.out HB.out HV.out rfl rfl HY0.out HY1.out).mono ?_
  rintro e wm6 ⟨rfl, hG, hT⟩
  have HG6 := Lib.hid hG
  have HT6 : Hid (Touch (inG p) _ wm6) := Lib.hid (HT5.out.trans hT)
  clear hG hT
  go_wp2_with fail
  go_ret
  exact ⟨rfl, HG6.out, HT6.out⟩
theorem tc_stay0 (F : FuncId) (hE : ∀ (args : Array Value) (w : World), (callFunc F args).run Tryz.prog w = .ok (.enter F args) w) (hG : G w p c s) (H : HeapAt c s.zs pool os) (ho : o ∈ os) (x : Int) (hx : nth s.zs (adr c o.h 0) = x)
    (hF : ∀ (w' : World) (b : Nat), Blk w' b #[.int .i64 (uK x), .int .i64 (uC x), .int .i64 (uN x), .int .i64 (uS x), .int .i64 (uD x), .int .i64 (uG x), .int .i64 0] 86 → Calls Tryz.prog F #[.pointer (some ⟨b, 0, none⟩)] w' fun e w'' => e = .returned (.bool false) ∧ Blk w'' b #[.int .i64 (uK x), .int .i64 (uC x), .int .i64 (uN x), .int .i64 (uS x), .int .i64 (uD x), .int .i64 (uG x), .int .i64 0] 86 ∧ Touch (fun i => i = b) w' w'') :
    Calls Tryz.prog 98 #[.pointer (some ⟨p.a, 0, none⟩), .int .i64 ((o.h : Int) + 1), .func (.func F) #[] #[]] w (GP w p c ⟨s.zs, s.m + 2⟩ (.bool false)) := by
  have HI := Lib.hid (tt_is_yes hG H ho)
  have HG := Lib.hid hG
  have HF := Lib.hid hF
  have NO : Hid (∀ i, w.heap.size ≤ i → ¬ ofG p i) := Lib.hid (fun i hi hx => by have := hG.ofG_lt hx; omega)
  have hA := H.obs o ho
  have hW := hG.may.w
  have HB := Lib.hid hA.hlt
  have HV : Hid (0 < c.W) := Lib.hid (by omega)
  have HX := Lib.hid hx
  have e1 := w64_ob hG.may hA.hlt
  have htk := hA.tok
  have hhd := hA.head
  rw [hx] at htk hhd
  have hbd := htk.bd
  have HN0 : Hid (0 ≤ x) := Lib.hid hbd.1
  have HN1 : Hid (x ≤ 4294967295) := Lib.hid (by omega)
  have hu0 : uO x = 0 := by
    have hr := htk.1
    unfold RightT at hr
    unfold HeadT at hhd
    omega
  have HR : Hid (rightB (uK x) (uC x) (uN x) (uS x) (uD x) (uG x) 0 = true) := Lib.hid (by
    have hr := htk.1
    rw [hu0] at hr
    exact rightB_mk hr)
  have EP : Hid (packI (uK x) (uC x) (uN x) (uS x) (uD x) (uG x) 0 = x) := Lib.hid (by
    have h := htk.pack
    rw [hu0] at h
    exact h)
  clear hG H ho hA hW hx hbd htk hhd hu0 hF
  go_enter Tryz.func98, Tryz.ntmps98
  have HT0 : Hid (Touch (inG p) w w) := Lib.hid (Touch.refl _ _)
  go_wp2_with fail
  refine (HI.out).mono ?_
  rintro e wm1 ⟨rfl, hG, hT⟩
  have HG1 := Lib.hid hG
  have HT1 : Hid (Touch (inG p) _ wm1) := Lib.hid (HT0.out.trans hT)
  clear hG hT
  go_wp2_with fail
  refine (wordW p c _ o.h 0 _ _ x _ HG1.out HB.out HV.out rfl rfl HX.out).mono ?_
  rintro e wm2 ⟨rfl, hG, hT⟩
  have HG2 := Lib.hid hG
  have HT2 : Hid (Touch (inG p) _ wm2) := Lib.hid (HT1.out.trans hT)
  clear hG hT
  go_wp2_with fail
  refine (tunpack_any x _ HN0.out HN1.out).mono ?_
  rintro e wm3 ⟨rfl, hb⟩
  have HG3 := Lib.hid (HG2.out.later hb)
  have HT3 : Hid (Touch (inG p) _ wm3) := Lib.hid (HT2.out.trans (Touch.of_below hb))
  clear hb
  go_wp2_with fail
  have HGa := Lib.hid (HG3.out.alloc (.cells #[.int .i64 (uK x), .int .i64 (uC x), .int .i64 (uN x), .int .i64 (uS x), .int .i64 (uD x), .int .i64 (uG x), .int .i64 0] 86))
  have HTa := Lib.hid (HT3.out.alloc (.cells #[.int .i64 (uK x), .int .i64 (uC x), .int .i64 (uN x), .int .i64 (uS x), .int .i64 (uD x), .int .i64 (uG x), .int .i64 0] 86))
  have HTB := Lib.hid (Blk.new wm3 #[.int .i64 (uK x), .int .i64 (uC x), .int .i64 (uN x), .int .i64 (uS x), .int .i64 (uD x), .int .i64 (uG x), .int .i64 0] 86)
  have HS3 : Hid (w.heap.size ≤ wm3.heap.size) := Lib.hid HT3.out.size
  generalize wm3.alloc (.cells #[.int .i64 (uK x), .int .i64 (uC x), .int .i64 (uN x), .int .i64 (uS x), .int .i64 (uD x), .int .i64 (uG x), .int .i64 0] 86) = v3 at *
  generalize wm3.heap.size = bq at *
  have t0 := HTB.out.cell 0 rfl
  have t1 := HTB.out.cell 1 rfl
  have t2 := HTB.out.cell 2 rfl
  have t3 := HTB.out.cell 3 rfl
  have t4 := HTB.out.cell 4 rfl
  have t5 := HTB.out.cell 5 rfl
  have t6 := HTB.out.cell 6 rfl
  go_wp2_with fail
  refine (tpack_yes (uK x) (uC x) (uN x) (uS x) (uD x) (uG x) 0 _ HR.out).mono ?_
  rw [EP.out]
  rintro e wm4 ⟨rfl, hb⟩
  have HG4 := Lib.hid (HGa.out.later hb)
  have HT4 : Hid (Touch (inG p) _ wm4) := Lib.hid (HTa.out.trans (Touch.of_below hb))
  have HTB4 := Lib.hid (HTB.out.later hb)
  clear hb
  clear t0 t1 t2 t3 t4 t5 t6
  go_wp2_with fail
  refine (HF.out _ bq HTB4.out).mono ?_
  rintro e v5 ⟨rfl, hB, hT⟩
  have HGb := Lib.hid (HG4.out.touch hT (fun i hi e => NO.out i (by have := HS3.out; omega) hi))
  have HTb := Lib.hid (HT4.out.newer hT HS3.out)
  have HTBb := Lib.hid hB
  clear hB hT
  go_wp2_with fail
  go_ret
  exact ⟨rfl, HGb.out, HTb.out⟩
end
end Go.Proofs.YtljdbaddockfcaaGreat.Pk

/-
  What the functions of package tint return: marks and shadows.
-/
namespace Go.Proofs.YtljdbaddockfcaaGreat.Pk
open Go.RowKit
set_option linter.unusedVariables false
set_option linter.unusedSimpArgs false
set_option maxRecDepth 100000

section
variable {p : Pl} {c : Cf} {s : St} {pool : List Nat} {os : List Ob} {o : Ob} {r : Int} {w : World}
/-! ### What is asked of a tag -/
theorem tt_Black_no (hG : G w p c s) (H : HeapAt c s.zs pool os) (hr : In64 r) (ho : obAt os r = none) : Calls Tryz.prog 44 #[.pointer (some ⟨p.a, 0, none⟩), .int .i64 r] w (GP w p c ⟨s.zs, s.m + askN (wordA c (prev r) 0)⟩ (.bool false)) := by
  have HI := Lib.hid (tt_tag_no hG H hr ho)
  have HG := Lib.hid hG
  clear hG H hr ho
  go_enter Tryz.func44, Tryz.ntmps44
  have HT0 : Hid (Touch (inG p) w w) := Lib.hid (Touch.refl _ _)
  go_wp2_with fail
  refine (HI.out).mono ?_
  rintro e wm1 ⟨rfl, hG, hT⟩
  have HG1 := Lib.hid hG
  have HT1 : Hid (Touch (inG p) _ wm1) := Lib.hid (HT0.out.trans hT)
  clear hG hT
  have HGa := Lib.hid (HG1.out.alloc (.cells #[.int .i64 0, .int .i64 0, .int .i64 0, .int .i64 0, .int .i64 0, .int .i64 0, .int .i64 0] 86))
  have HTa := Lib.hid (HT1.out.alloc (.cells #[.int .i64 0, .int .i64 0, .int .i64 0, .int .i64 0, .int .i64 0, .int .i64 0, .int .i64 0] 86))
  go_wp2_with fail
  go_quiet (fail)
  go_wp2_with fail
  go_ret
  exact ⟨rfl, (HGa.out.later (show Below _ _ ((wm1.alloc _).drewN _) from ⟨rfl, rfl, rfl, Nat.le_refl _, fun _ _ => rfl⟩)), HTa.out.drewN _⟩
theorem tt_Shadow_no (hG : G w p c s) (H : HeapAt c s.zs pool os) (hr : In64 r) (ho : obAt os r = none) : Calls Tryz.prog 48 #[.pointer (some ⟨p.a, 0, none⟩), .int .i64 r] w (GP w p c ⟨s.zs, s.m + askN (wordA c (prev r) 0)⟩ (.int .i64 0)) := by
  have HI := Lib.hid (tt_tag_no hG H hr ho)
  have HG := Lib.hid hG
  clear hG H hr ho
  go_enter Tryz.func48, Tryz.ntmps48
  have HT0 : Hid (Touch (inG p) w w) := Lib.hid (Touch.refl _ _)
  go_wp2_with fail
  refine (HI.out).mono ?_
  rintro e wm1 ⟨rfl, hG, hT⟩
  have HG1 := Lib.hid hG
  have HT1 : Hid (Touch (inG p) _ wm1) := Lib.hid (HT0.out.trans hT)
  clear hG hT
  have HGa := Lib.hid (HG1.out.alloc (.cells #[.int .i64 0, .int .i64 0, .int .i64 0, .int .i64 0, .int .i64 0, .int .i64 0, .int .i64 0] 86))
  have HTa := Lib.hid (HT1.out.alloc (.cells #[.int .i64 0, .int .i64 0, .int .i64 0, .int .i64 0, .int .i64 0, .int .i64 0, .int .i64 0] 86))
  go_wp2_with fail
  go_quiet (fail)
  go_wp2_with fail
  go_ret
  exact ⟨rfl, (HGa.out.later (show Below _ _ ((wm1.alloc _).drewN _) from ⟨rfl, rfl, rfl, Nat.le_refl _, fun _ _ => rfl⟩)), HTa.out.drewN _⟩
theorem tt_Counted_no (i : Int) (hG : G w p c s) (H : HeapAt c s.zs pool os) (hr : In64 r) (ho : obAt os r = none) : Calls Tryz.prog 51 #[.pointer (some ⟨p.a, 0, none⟩), .int .i64 r, .int .i64 i] w (GP w p c ⟨s.zs, s.m + askN (wordA c (prev r) 0)⟩ (.bool false)) := by
  have HI := Lib.hid (tt_tag_no hG H hr ho)
  have HG := Lib.hid hG
  clear hG H hr ho
  go_enter Tryz.func51, Tryz.ntmps51
  have HT0 : Hid (Touch (inG p) w w) := Lib.hid (Touch.refl _ _)
  go_wp2_with fail
  refine (HI.out).mono ?_
  rintro e wm1 ⟨rfl, hG, hT⟩
  have HG1 := Lib.hid hG
  have HT1 : Hid (Touch (inG p) _ wm1) := Lib.hid (HT0.out.trans hT)
  clear hG hT
  have HGa := Lib.hid (HG1.out.alloc (.cells #[.int .i64 0, .int .i64 0, .int .i64 0, .int .i64 0, .int .i64 0, .int .i64 0, .int .i64 0] 86))
  have HTa := Lib.hid (HT1.out.alloc (.cells #[.int .i64 0, .int .i64 0, .int .i64 0, .int .i64 0, .int .i64 0, .int .i64 0, .int .i64 0] 86))
  go_wp2_with fail
  go_ret
  exact ⟨rfl, HGa.out, HTa.out⟩
theorem tt_Black_yes (hG : G w p c s) (H : HeapAt c s.zs pool os) (ho : o ∈ os) (x : Int) (hx : nth s.zs (adr c o.h 0) = x) (P : Int) (hP : nth s.zs 10 = P) : Calls Tryz.prog 44 #[.pointer (some ⟨p.a, 0, none⟩), .int .i64 ((o.h : Int) + 1)] w (GP w p c ⟨s.zs, s.m + 3⟩ (.bool (decide (uC x = P)))) := by
  have HI := Lib.hid (tt_tag_yes hG H ho x hx)
  have HG := Lib.hid hG
  have NO : Hid (∀ i, w.heap.size ≤ i → ¬ ofG p i) := Lib.hid (fun i hi hx => by have := hG.ofG_lt hx; omega)
  have hA := H.obs o ho
  have hW := hG.may.w
  have HB := Lib.hid hA.hlt
  have HV : Hid (4 < c.W) := Lib.hid (by omega)
  have e1 := w64_ob hG.may hA.hlt
  have HP := Lib.hid hP
  clear hP
  have E : Hid ((uC x == P) = decide (uC x = P)) := Lib.hid (by by_cases h : uC x = P <;> simp [h])
  clear hG H ho hA hW hx
  go_enter Tryz.func44, Tryz.ntmps44
  have HT0 : Hid (Touch (inG p) w w) := Lib.hid (Touch.refl _ _)
  go_wp2_with fail
  refine (HI.out).mono ?_
  rintro e wm1 ⟨rfl, hG, hT⟩
  have HG1 := Lib.hid hG
  have HT1 : Hid (Touch (inG p) _ wm1) := Lib.hid (HT0.out.trans hT)
  clear hG hT
  have HGa := Lib.hid (HG1.out.alloc (.cells #[.int .i64 (uK x), .int .i64 (uC x), .int .i64 (uN x), .int .i64 (uS x), .int .i64 (uD x), .int .i64 (uG x), .int .i64 (uO x)] 86))
  have HTa := Lib.hid (HT1.out.alloc (.cells #[.int .i64 (uK x), .int .i64 (uC x), .int .i64 (uN x), .int .i64 (uS x), .int .i64 (uD x), .int .i64 (uG x), .int .i64 (uO x)] 86))
  have HBk := Lib.hid (Blk.new wm1 #[.int .i64 (uK x), .int .i64 (uC x), .int .i64 (uN x), .int .i64 (uS x), .int .i64 (uD x), .int .i64 (uG x), .int .i64 (uO x)] 86)
  have HS3 : Hid (w.heap.size ≤ wm1.heap.size) := Lib.hid HT1.out.size
  go_wp2_with fail
  generalize wm1.alloc (.cells #[.int .i64 (uK x), .int .i64 (uC x), .int .i64 (uN x), .int .i64 (uS x), .int .i64 (uD x), .int .i64 (uG x), .int .i64 (uO x)] 86) = v3 at *
  generalize wm1.heap.size = bq at *
  have z0 := HBk.out.drew.cell 1 rfl
  go_region_held3 (fun w' => w'.cell? ⟨bq, 1, none⟩ = some (.int .i64 (uC x))) (exact z0) (first | (go_at_call 39; refine (tt_Parity HGa.out.drew P HP.out).mono ?_; rintro e w5 ⟨rfl, hG, hT⟩; have hT' := hT.undrew; have HG5 := Lib.hid hG; have HT5 := Lib.hid (HTa.out.trans hT'); have z0 := (HBk.out.touch hT' (fun hx => NO.out _ HS3.out (Or.inr hx))).cell 1 rfl; clear hG hT hT'))
  have HG5 := HG5
  go_wp2_with fail
  go_ret
  exact ⟨ret_bool E.out, HG5.out, HT5.out⟩
theorem tt_Shadow_0 (hG : G w p c s) (H : HeapAt c s.zs pool os) (ho : o ∈ os) (x : Int) (hx : nth s.zs (adr c o.h 0) = x) (P : Int) (hP : nth s.zs 10 = P) (hs : ¬ uS x = P) : Calls Tryz.prog 48 #[.pointer (some ⟨p.a, 0, none⟩), .int .i64 ((o.h : Int) + 1)] w (GP w p c ⟨s.zs, s.m + 3⟩ (.int .i64 0)) := by
  have HI := Lib.hid (tt_tag_yes hG H ho x hx)
  have HG := Lib.hid hG
  have NO : Hid (∀ i, w.heap.size ≤ i → ¬ ofG p i) := Lib.hid (fun i hi hx => by have := hG.ofG_lt hx; omega)
  have hA := H.obs o ho
  have hW := hG.may.w
  have HB := Lib.hid hA.hlt
  have HV : Hid (4 < c.W) := Lib.hid (by omega)
  have e1 := w64_ob hG.may hA.hlt
  have HP := Lib.hid hP
  have hne : (uS x != P) = true := by simp [hs]
  clear hP hs
  clear hG H ho hA hW hx
  go_enter Tryz.func48, Tryz.ntmps48
  have HT0 : Hid (Touch (inG p) w w) := Lib.hid (Touch.refl _ _)
  go_wp2_with fail
  refine (HI.out).mono ?_
  rintro e wm1 ⟨rfl, hG, hT⟩
  have HG1 := Lib.hid hG
  have HT1 : Hid (Touch (inG p) _ wm1) := Lib.hid (HT0.out.trans hT)
  clear hG hT
  have HGa := Lib.hid (HG1.out.alloc (.cells #[.int .i64 (uK x), .int .i64 (uC x), .int .i64 (uN x), .int .i64 (uS x), .int .i64 (uD x), .int .i64 (uG x), .int .i64 (uO x)] 86))
  have HTa := Lib.hid (HT1.out.alloc (.cells #[.int .i64 (uK x), .int .i64 (uC x), .int .i64 (uN x), .int .i64 (uS x), .int .i64 (uD x), .int .i64 (uG x), .int .i64 (uO x)] 86))
  have HBk := Lib.hid (Blk.new wm1 #[.int .i64 (uK x), .int .i64 (uC x), .int .i64 (uN x), .int .i64 (uS x), .int .i64 (uD x), .int .i64 (uG x), .int .i64 (uO x)] 86)
  have HS3 : Hid (w.heap.size ≤ wm1.heap.size) := Lib.hid HT1.out.size
  go_wp2_with fail
  generalize wm1.alloc (.cells #[.int .i64 (uK x), .int .i64 (uC x), .int .i64 (uN x), .int .i64 (uS x), .int .i64 (uD x), .int .i64 (uG x), .int .i64 (uO x)] 86) = v3 at *
  generalize wm1.heap.size = bq at *
  have z0 := HBk.out.drew.cell 3 rfl
  go_region_held3 (fun w' => w'.cell? ⟨bq, 3, none⟩ = some (.int .i64 (uS x))) (exact z0) (first | (go_at_call 39; refine (tt_Parity HGa.out.drew P HP.out).mono ?_; rintro e w5 ⟨rfl, hG, hT⟩; have hT' := hT.undrew; have HG5 := Lib.hid hG; have HT5 := Lib.hid (HTa.out.trans hT'); have z0 := (HBk.out.touch hT' (fun hx => NO.out _ HS3.out (Or.inr hx))).cell 3 rfl; clear hG hT hT'))
  have HG5 := HG5
  go_wp2_with fail
  go_ret
  exact ⟨rfl, HG5.out, HT5.out⟩
theorem tt_Shadow_yes (hG : G w p c s) (H : HeapAt c s.zs pool os) (ho : o ∈ os) (x : Int) (hx : nth s.zs (adr c o.h 0) = x) (P : Int) (hP : nth s.zs 10 = P) (hs : uS x = P) (y : Int) (hy : nth s.zs (adr c o.h 4) = y) : Calls Tryz.prog 48 #[.pointer (some ⟨p.a, 0, none⟩), .int .i64 ((o.h : Int) + 1)] w (GP w p c ⟨s.zs, s.m + 4⟩ (.int .i64 y)) := by
  have HI := Lib.hid (tt_tag_yes hG H ho x hx)
  have HG := Lib.hid hG
  have NO : Hid (∀ i, w.heap.size ≤ i → ¬ ofG p i) := Lib.hid (fun i hi hx => by have := hG.ofG_lt hx; omega)
  have hA := H.obs o ho
  have hW := hG.may.w
  have HB := Lib.hid hA.hlt
  have HV : Hid (4 < c.W) := Lib.hid (by omega)
  have e1 := w64_ob hG.may hA.hlt
  have HP := Lib.hid hP
  have hne : (uS x != P) = false := by simp [hs]
  have HY := Lib.hid hy
  have hwf := hG.wz.wf (adr c o.h 4)
  rw [hy] at hwf
  have hwr : IntKind.i64.wrap y = y := IntWalk.i64_in _ (by omega)
  clear hP hs hy hwf
  clear hG H ho hA hW hx
  go_enter Tryz.func48, Tryz.ntmps48
  have HT0 : Hid (Touch (inG p) w w) := Lib.hid (Touch.refl _ _)
  go_wp2_with fail
  refine (HI.out).mono ?_
  rintro e wm1 ⟨rfl, hG, hT⟩
  have HG1 := Lib.hid hG
  have HT1 : Hid (Touch (inG p) _ wm1) := Lib.hid (HT0.out.trans hT)
  clear hG hT
  have HGa := Lib.hid (HG1.out.alloc (.cells #[.int .i64 (uK x), .int .i64 (uC x), .int .i64 (uN x), .int .i64 (uS x), .int .i64 (uD x), .int .i64 (uG x), .int .i64 (uO x)] 86))
  have HTa := Lib.hid (HT1.out.alloc (.cells #[.int .i64 (uK x), .int .i64 (uC x), .int .i64 (uN x), .int .i64 (uS x), .int .i64 (uD x), .int .i64 (uG x), .int .i64 (uO x)] 86))
  have HBk := Lib.hid (Blk.new wm1 #[.int .i64 (uK x), .int .i64 (uC x), .int .i64 (uN x), .int .i64 (uS x), .int .i64 (uD x), .int .i64 (uG x), .int .i64 (uO x)] 86)
  have HS3 : Hid (w.heap.size ≤ wm1.heap.size) := Lib.hid HT1.out.size
  go_wp2_with fail
  generalize wm1.alloc (.cells #[.int .i64 (uK x), .int .i64 (uC x), .int .i64 (uN x), .int .i64 (uS x), .int .i64 (uD x), .int .i64 (uG x), .int .i64 (uO x)] 86) = v3 at *
  generalize wm1.heap.size = bq at *
  have z0 := HBk.out.drew.cell 3 rfl
  go_region_held3 (fun w' => w'.cell? ⟨bq, 3, none⟩ = some (.int .i64 (uS x))) (exact z0) (first | (go_at_call 39; refine (tt_Parity HGa.out.drew P HP.out).mono ?_; rintro e w5 ⟨rfl, hG, hT⟩; have hT' := hT.undrew; have HG5 := Lib.hid hG; have HT5 := Lib.hid (HTa.out.trans hT'); have z0 := (HBk.out.touch hT' (fun hx => NO.out _ HS3.out (Or.inr hx))).cell 3 rfl; clear hG hT hT'))
  have HG5 := HG5
  go_wp2_with fail
  refine (wordW p c _ o.h 4 _ _ y _ HG5.out HB.out HV.out rfl rfl HY.out).mono ?_
  rintro e wm2 ⟨rfl, hG, hT⟩
  have HG2 := Lib.hid hG
  have HT2 : Hid (Touch (inG p) _ wm2) := Lib.hid (HT5.out.trans hT)
  clear hG hT
  go_wp2_with fail
  go_ret
  exact ⟨rfl, HG2.out, HT2.out⟩
theorem tt_Counted_neg (i : Int) (hG : G w p c s) (H : HeapAt c s.zs pool os) (ho : o ∈ os) (x : Int) (hx : nth s.zs (adr c o.h 0) = x) (hi : i < 0) : Calls Tryz.prog 51 #[.pointer (some ⟨p.a, 0, none⟩), .int .i64 ((o.h : Int) + 1), .int .i64 i] w (GP w p c ⟨s.zs, s.m + 2⟩ (.bool false)) := by
  have HI := Lib.hid (tt_tag_yes hG H ho x hx)
  have HG := Lib.hid hG
  have NO : Hid (∀ i, w.heap.size ≤ i → ¬ ofG p i) := Lib.hid (fun i hi hx => by have := hG.ofG_lt hx; omega)
  have hA := H.obs o ho
  have hW := hG.may.w
  have HB := Lib.hid hA.hlt
  have HV : Hid (4 < c.W) := Lib.hid (by omega)
  have e1 := w64_ob hG.may hA.hlt
  have HI0 := Lib.hid hi
  clear hG H ho hA hW hx
  go_enter Tryz.func51, Tryz.ntmps51
  have HT0 : Hid (Touch (inG p) w w) := Lib.hid (Touch.refl _ _)
  go_wp2_with fail
  refine (HI.out).mono ?_
  rintro e wm1 ⟨rfl, hG, hT⟩
  have HG1 := Lib.hid hG
  have HT1 : Hid (Touch (inG p) _ wm1) := Lib.hid (HT0.out.trans hT)
  clear hG hT
  have HGa := Lib.hid (HG1.out.alloc (.cells #[.int .i64 (uK x), .int .i64 (uC x), .int .i64 (uN x), .int .i64 (uS x), .int .i64 (uD x), .int .i64 (uG x), .int .i64 (uO x)] 86))
  have HTa := Lib.hid (HT1.out.alloc (.cells #[.int .i64 (uK x), .int .i64 (uC x), .int .i64 (uN x), .int .i64 (uS x), .int .i64 (uD x), .int .i64 (uG x), .int .i64 (uO x)] 86))
  have HBk := Lib.hid (Blk.new wm1 #[.int .i64 (uK x), .int .i64 (uC x), .int .i64 (uN x), .int .i64 (uS x), .int .i64 (uD x), .int .i64 (uG x), .int .i64 (uO x)] 86)
  have HS3 : Hid (w.heap.size ≤ wm1.heap.size) := Lib.hid HT1.out.size
  go_wp2_with fail
  generalize wm1.alloc (.cells #[.int .i64 (uK x), .int .i64 (uC x), .int .i64 (uN x), .int .i64 (uS x), .int .i64 (uD x), .int .i64 (uG x), .int .i64 (uO x)] 86) = v3 at *
  generalize wm1.heap.size = bq at *
  go_ret
  exact ⟨rfl, HGa.out, HTa.out⟩
theorem tt_Counted_yes (i : Int) (hG : G w p c s) (H : HeapAt c s.zs pool os) (ho : o ∈ os) (x : Int) (hx : nth s.zs (adr c o.h 0) = x) (P : Int) (hP : nth s.zs 10 = P) (hi : ¬ i < 0) (hs : uN x = P) : Calls Tryz.prog 51 #[.pointer (some ⟨p.a, 0, none⟩), .int .i64 ((o.h : Int) + 1), .int .i64 i] w (GP w p c ⟨s.zs, s.m + 3⟩ (.bool true)) := by
  have HI := Lib.hid (tt_tag_yes hG H ho x hx)
  have HG := Lib.hid hG
  have NO : Hid (∀ i, w.heap.size ≤ i → ¬ ofG p i) := Lib.hid (fun i hi hx => by have := hG.ofG_lt hx; omega)
  have hA := H.obs o ho
  have hW := hG.may.w
  have HB := Lib.hid hA.hlt
  have HV : Hid (4 < c.W) := Lib.hid (by omega)
  have e1 := w64_ob hG.may hA.hlt
  have HP := Lib.hid hP
  have hne := eq_b hs
  clear hP hs
  clear hG H ho hA hW hx
  go_enter Tryz.func51, Tryz.ntmps51
  have HT0 : Hid (Touch (inG p) w w) := Lib.hid (Touch.refl _ _)
  go_wp2_with fail
  refine (HI.out).mono ?_
  rintro e wm1 ⟨rfl, hG, hT⟩
  have HG1 := Lib.hid hG
  have HT1 : Hid (Touch (inG p) _ wm1) := Lib.hid (HT0.out.trans hT)
  clear hG hT
  have HGa := Lib.hid (HG1.out.alloc (.cells #[.int .i64 (uK x), .int .i64 (uC x), .int .i64 (uN x), .int .i64 (uS x), .int .i64 (uD x), .int .i64 (uG x), .int .i64 (uO x)] 86))
  have HTa := Lib.hid (HT1.out.alloc (.cells #[.int .i64 (uK x), .int .i64 (uC x), .int .i64 (uN x), .int .i64 (uS x), .int .i64 (uD x), .int .i64 (uG x), .int .i64 (uO x)] 86))
  have HBk := Lib.hid (Blk.new wm1 #[.int .i64 (uK x), .int .i64 (uC x), .int .i64 (uN x), .int .i64 (uS x), .int .i64 (uD x), .int .i64 (uG x), .int .i64 (uO x)] 86)
  have HS3 : Hid (w.heap.size ≤ wm1.heap.size) := Lib.hid HT1.out.size
  go_wp2_with fail
  generalize wm1.alloc (.cells #[.int .i64 (uK x), .int .i64 (uC x), .int .i64 (uN x), .int .i64 (uS x), .int .i64 (uD x), .int .i64 (uG x), .int .i64 (uO x)] 86) = v3 at *
  generalize wm1.heap.size = bq at *
  have z0 := HBk.out.drew.cell 2 rfl
  go_region_held3 (fun w' => w'.cell? ⟨bq, 2, none⟩ = some (.int .i64 (uN x))) (exact z0) (first | (go_at_call 39; refine (tt_Parity HGa.out.drew P HP.out).mono ?_; rintro e w5 ⟨rfl, hG, hT⟩; have hT' := hT.undrew; have HG5 := Lib.hid hG; have HT5 := Lib.hid (HTa.out.trans hT'); have z0 := (HBk.out.touch hT' (fun hx => NO.out _ HS3.out (Or.inr hx))).cell 2 rfl; clear hG hT hT'))
  have HG5 := HG5
  go_wp2_with fail
  go_ret
  exact ⟨rfl, HG5.out, HT5.out⟩
theorem tt_Counted_ph (i : Int) (hG : G w p c s) (H : HeapAt c s.zs pool os) (ho : o ∈ os) (x : Int) (hx : nth s.zs (adr c o.h 0) = x) (P : Int) (hP : nth s.zs 10 = P) (hi : ¬ i < 0) (hs : ¬ uN x = P) (ph cu fi : Int) (hph : nth s.zs 11 = ph) (hcu : nth s.zs 12 = cu) (hfi : nth s.zs 13 = fi) (h1 : ¬ ph = 1) : Calls Tryz.prog 51 #[.pointer (some ⟨p.a, 0, none⟩), .int .i64 ((o.h : Int) + 1), .int .i64 i] w (GP w p c ⟨s.zs, s.m + 6⟩ (.bool false)) := by
  have HI := Lib.hid (tt_tag_yes hG H ho x hx)
  have HG := Lib.hid hG
  have NO : Hid (∀ i, w.heap.size ≤ i → ¬ ofG p i) := Lib.hid (fun i hi hx => by have := hG.ofG_lt hx; omega)
  have hA := H.obs o ho
  have hW := hG.may.w
  have HB := Lib.hid hA.hlt
  have HV : Hid (4 < c.W) := Lib.hid (by omega)
  have e1 := w64_ob hG.may hA.hlt
  have HP := Lib.hid hP
  have hne := neq_b hs
  have H11 := Lib.hid hph
  have H12 := Lib.hid hcu
  have H13 := Lib.hid hfi
  clear hP hs hph hcu hfi
  have q1 := neq_b h1
  clear h1
  clear hG H ho hA hW hx
  go_enter Tryz.func51, Tryz.ntmps51
  have HT0 : Hid (Touch (inG p) w w) := Lib.hid (Touch.refl _ _)
  go_wp2_with fail
  refine (HI.out).mono ?_
  rintro e wm1 ⟨rfl, hG, hT⟩
  have HG1 := Lib.hid hG
  have HT1 : Hid (Touch (inG p) _ wm1) := Lib.hid (HT0.out.trans hT)
  clear hG hT
  have HGa := Lib.hid (HG1.out.alloc (.cells #[.int .i64 (uK x), .int .i64 (uC x), .int .i64 (uN x), .int .i64 (uS x), .int .i64 (uD x), .int .i64 (uG x), .int .i64 (uO x)] 86))
  have HTa := Lib.hid (HT1.out.alloc (.cells #[.int .i64 (uK x), .int .i64 (uC x), .int .i64 (uN x), .int .i64 (uS x), .int .i64 (uD x), .int .i64 (uG x), .int .i64 (uO x)] 86))
  have HBk := Lib.hid (Blk.new wm1 #[.int .i64 (uK x), .int .i64 (uC x), .int .i64 (uN x), .int .i64 (uS x), .int .i64 (uD x), .int .i64 (uG x), .int .i64 (uO x)] 86)
  have HS3 : Hid (w.heap.size ≤ wm1.heap.size) := Lib.hid HT1.out.size
  go_wp2_with fail
  generalize wm1.alloc (.cells #[.int .i64 (uK x), .int .i64 (uC x), .int .i64 (uN x), .int .i64 (uS x), .int .i64 (uD x), .int .i64 (uG x), .int .i64 (uO x)] 86) = v3 at *
  generalize wm1.heap.size = bq at *
  have z0 := HBk.out.drew.cell 2 rfl
  go_region_held3 (fun w' => w'.cell? ⟨bq, 2, none⟩ = some (.int .i64 (uN x))) (exact z0) (first | (go_at_call 39; refine (tt_Parity HGa.out.drew P HP.out).mono ?_; rintro e w5 ⟨rfl, hG, hT⟩; have hT' := hT.undrew; have HG5 := Lib.hid hG; have HT5 := Lib.hid (HTa.out.trans hT'); have z0 := (HBk.out.touch hT' (fun hx => NO.out _ HS3.out (Or.inr hx))).cell 2 rfl; clear hG hT hT'))
  have HG5 := HG5
  go_wp2_with fail
  refine (tt_At HG5.out _ _ H12.out H13.out).mono ?_
  rintro e wm2 ⟨rfl, hG, hT⟩
  have HG2 := Lib.hid hG
  have HT2 : Hid (Touch (inG p) _ wm2) := Lib.hid (HT5.out.trans hT)
  clear hG hT
  go_wp2_with fail
  refine (tt_Phase HG2.out _ H11.out).mono ?_
  rintro e wm3 ⟨rfl, hG, hT⟩
  have HG3 := Lib.hid hG
  have HT3 : Hid (Touch (inG p) _ wm3) := Lib.hid (HT2.out.trans hT)
  clear hG hT
  go_wp2_with fail
  go_ret
  exact ⟨rfl, HG3.out, HT3.out⟩
theorem tt_Counted_at (i : Int) (hG : G w p c s) (H : HeapAt c s.zs pool os) (ho : o ∈ os) (x : Int) (hx : nth s.zs (adr c o.h 0) = x) (P : Int) (hP : nth s.zs 10 = P) (hi : ¬ i < 0) (hs : ¬ uN x = P) (ph cu fi : Int) (hph : nth s.zs 11 = ph) (hcu : nth s.zs 12 = cu) (hfi : nth s.zs 13 = fi) (h1 : ph = 1) (h2 : ¬ cu = (o.h : Int)) : Calls Tryz.prog 51 #[.pointer (some ⟨p.a, 0, none⟩), .int .i64 ((o.h : Int) + 1), .int .i64 i] w (GP w p c ⟨s.zs, s.m + 6⟩ (.bool false)) := by
  have HI := Lib.hid (tt_tag_yes hG H ho x hx)
  have HG := Lib.hid hG
  have NO : Hid (∀ i, w.heap.size ≤ i → ¬ ofG p i) := Lib.hid (fun i hi hx => by have := hG.ofG_lt hx; omega)
  have hA := H.obs o ho
  have hW := hG.may.w
  have HB := Lib.hid hA.hlt
  have HV : Hid (4 < c.W) := Lib.hid (by omega)
  have e1 := w64_ob hG.may hA.hlt
  have HP := Lib.hid hP
  have hne := neq_b hs
  have H11 := Lib.hid hph
  have H12 := Lib.hid hcu
  have H13 := Lib.hid hfi
  clear hP hs hph hcu hfi
  subst h1
  have q2 := neq_b h2
  clear h2
  clear hG H ho hA hW hx
  go_enter Tryz.func51, Tryz.ntmps51
  have HT0 : Hid (Touch (inG p) w w) := Lib.hid (Touch.refl _ _)
  go_wp2_with fail
  refine (HI.out).mono ?_
  rintro e wm1 ⟨rfl, hG, hT⟩
  have HG1 := Lib.hid hG
  have HT1 : Hid (Touch (inG p) _ wm1) := Lib.hid (HT0.out.trans hT)
  clear hG hT
  have HGa := Lib.hid (HG1.out.alloc (.cells #[.int .i64 (uK x), .int .i64 (uC x), .int .i64 (uN x), .int .i64 (uS x), .int .i64 (uD x), .int .i64 (uG x), .int .i64 (uO x)] 86))
  have HTa := Lib.hid (HT1.out.alloc (.cells #[.int .i64 (uK x), .int .i64 (uC x), .int .i64 (uN x), .int .i64 (uS x), .int .i64 (uD x), .int .i64 (uG x), .int .i64 (uO x)] 86))
  have HBk := Lib.hid (Blk.new wm1 #[.int .i64 (uK x), .int .i64 (uC x), .int .i64 (uN x), .int .i64 (uS x), .int .i64 (uD x), .int .i64 (uG x), .int .i64 (uO x)] 86)
  have HS3 : Hid (w.heap.size ≤ wm1.heap.size) := Lib.hid HT1.out.size
  go_wp2_with fail
  generalize wm1.alloc (.cells #[.int .i64 (uK x), .int .i64 (uC x), .int .i64 (uN x), .int .i64 (uS x), .int .i64 (uD x), .int .i64 (uG x), .int .i64 (uO x)] 86) = v3 at *
  generalize wm1.heap.size = bq at *
  have z0 := HBk.out.drew.cell 2 rfl
  go_region_held3 (fun w' => w'.cell? ⟨bq, 2, none⟩ = some (.int .i64 (uN x))) (exact z0) (first | (go_at_call 39; refine (tt_Parity HGa.out.drew P HP.out).mono ?_; rintro e w5 ⟨rfl, hG, hT⟩; have hT' := hT.undrew; have HG5 := Lib.hid hG; have HT5 := Lib.hid (HTa.out.trans hT'); have z0 := (HBk.out.touch hT' (fun hx => NO.out _ HS3.out (Or.inr hx))).cell 2 rfl; clear hG hT hT'))
  have HG5 := HG5
  go_wp2_with fail
  refine (tt_At HG5.out _ _ H12.out H13.out).mono ?_
  rintro e wm2 ⟨rfl, hG, hT⟩
  have HG2 := Lib.hid hG
  have HT2 : Hid (Touch (inG p) _ wm2) := Lib.hid (HT5.out.trans hT)
  clear hG hT
  go_wp2_with fail
  refine (tt_Phase HG2.out _ H11.out).mono ?_
  rintro e wm3 ⟨rfl, hG, hT⟩
  have HG3 := Lib.hid hG
  have HT3 : Hid (Touch (inG p) _ wm3) := Lib.hid (HT2.out.trans hT)
  clear hG hT
  go_wp2_with fail
  go_ret
  exact ⟨rfl, HG3.out, HT3.out⟩
theorem tt_Counted_in (i : Int) (hG : G w p c s) (H : HeapAt c s.zs pool os) (ho : o ∈ os) (x : Int) (hx : nth s.zs (adr c o.h 0) = x) (P : Int) (hP : nth s.zs 10 = P) (hi : ¬ i < 0) (hs : ¬ uN x = P) (ph cu fi : Int) (hph : nth s.zs 11 = ph) (hcu : nth s.zs 12 = cu) (hfi : nth s.zs 13 = fi) (h1 : ph = 1) (h2 : cu = (o.h : Int)) : Calls Tryz.prog 51 #[.pointer (some ⟨p.a, 0, none⟩), .int .i64 ((o.h : Int) + 1), .int .i64 i] w (GP w p c ⟨s.zs, s.m + 6⟩ (.bool (decide (i < fi)))) := by
  have HI := Lib.hid (tt_tag_yes hG H ho x hx)
  have HG := Lib.hid hG
  have NO : Hid (∀ i, w.heap.size ≤ i → ¬ ofG p i) := Lib.hid (fun i hi hx => by have := hG.ofG_lt hx; omega)
  have hA := H.obs o ho
  have hW := hG.may.w
  have HB := Lib.hid hA.hlt
  have HV : Hid (4 < c.W) := Lib.hid (by omega)
  have e1 := w64_ob hG.may hA.hlt
  have HP := Lib.hid hP
  have hne := neq_b hs
  have H11 := Lib.hid hph
  have H12 := Lib.hid hcu
  have H13 := Lib.hid hfi
  clear hP hs hph hcu hfi
  subst h1 h2
  clear hG H ho hA hW hx
  go_enter Tryz.func51, Tryz.ntmps51
  have HT0 : Hid (Touch (inG p) w w) := Lib.hid (Touch.refl _ _)
  go_wp2_with fail
  refine (HI.out).mono ?_
  rintro e wm1 ⟨rfl, hG, hT⟩
  have HG1 := Lib.hid hG
  have HT1 : Hid (Touch (inG p) _ wm1) := Lib.hid (HT0.out.trans hT)
  clear hG hT
  have HGa := Lib.hid (HG1.out.alloc (.cells #[.int .i64 (uK x), .int .i64 (uC x), .int .i64 (uN x), .int .i64 (uS x), .int .i64 (uD x), .int .i64 (uG x), .int .i64 (uO x)] 86))
  have HTa := Lib.hid (HT1.out.alloc (.cells #[.int .i64 (uK x), .int .i64 (uC x), .int .i64 (uN x), .int .i64 (uS x), .int .i64 (uD x), .int .i64 (uG x), .int .i64 (uO x)] 86))
  have HBk := Lib.hid (Blk.new wm1 #[.int .i64 (uK x), .int .i64 (uC x), .int .i64 (uN x), .int .i64 (uS x), .int .i64 (uD x), .int .i64 (uG x), .int .i64 (uO x)] 86)
  have HS3 : Hid (w.heap.size ≤ wm1.heap.size) := Lib.hid HT1.out.size
  go_wp2_with fail
  generalize wm1.alloc (.cells #[.int .i64 (uK x), .int .i64 (uC x), .int .i64 (uN x), .int .i64 (uS x), .int .i64 (uD x), .int .i64 (uG x), .int .i64 (uO x)] 86) = v3 at *
  generalize wm1.heap.size = bq at *
  have z0 := HBk.out.drew.cell 2 rfl
  go_region_held3 (fun w' => w'.cell? ⟨bq, 2, none⟩ = some (.int .i64 (uN x))) (exact z0) (first | (go_at_call 39; refine (tt_Parity HGa.out.drew P HP.out).mono ?_; rintro e w5 ⟨rfl, hG, hT⟩; have hT' := hT.undrew; have HG5 := Lib.hid hG; have HT5 := Lib.hid (HTa.out.trans hT'); have z0 := (HBk.out.touch hT' (fun hx => NO.out _ HS3.out (Or.inr hx))).cell 2 rfl; clear hG hT hT'))
  have HG5 := HG5
  go_wp2_with fail
  refine (tt_At HG5.out _ _ H12.out H13.out).mono ?_
  rintro e wm2 ⟨rfl, hG, hT⟩
  have HG2 := Lib.hid hG
  have HT2 : Hid (Touch (inG p) _ wm2) := Lib.hid (HT5.out.trans hT)
  clear hG hT
  go_wp2_with fail
  refine (tt_Phase HG2.out _ H11.out).mono ?_
  rintro e wm3 ⟨rfl, hG, hT⟩
  have HG3 := Lib.hid hG
  have HT3 : Hid (Touch (inG p) _ wm3) := Lib.hid (HT2.out.trans hT)
  clear hG hT
  go_wp2_with fail
  go_ret
  exact ⟨rfl, HG3.out, HT3.out⟩
/-! ### Marks are set -/
theorem tt_Kill_no (hG : G w p c s) (H : HeapAt c s.zs pool os) (hr : In64 r) (ho : obAt os r = none) : Calls Tryz.prog 47 #[.pointer (some ⟨p.a, 0, none⟩), .int .i64 r] w (GP w p c ⟨s.zs, s.m + (askN (wordA c (prev r) 0))⟩ (.bool false)) := by
  have hmf : ∀ (fn : Fn) (first cap : Array Value) (w : World), (Instr.makeFunc fn first cap).run Tryz.prog w = .ok (.func fn first cap) w := fun _ _ _ _ => rfl
  have HC := Lib.hid (fun (w' : World) (m : Nat) (V : Value) (hG' : G w' p c ⟨s.zs, m⟩) => tc_no V hG' H hr ho)
  have HG := Lib.hid hG
  clear hG H hr ho
  go_enter Tryz.func47, Tryz.ntmps47
  have HT0 : Hid (Touch (inG p) w w) := Lib.hid (Touch.refl _ _)
  go_wp2_with fail
  refine (HC.out _ _ _ HG.out).mono ?_
  rintro e w2 ⟨rfl, hG, hT⟩
  have HG2 := Lib.hid hG
  have HT2 := Lib.hid hT
  clear hG hT
  go_wp2_with fail
  go_ret
  exact ⟨rfl, HG2.out.to' rfl (by show _ = _; simp only [Nat.add_assoc]), HT2.out⟩
theorem tt_Kill_yes (hG : G w p c s) (H : HeapAt c s.zs pool os) (ho : o ∈ os) (x : Int) (hx : nth s.zs (adr c o.h 0) = x) (hd : uD x = 0) : Calls Tryz.prog 47 #[.pointer (some ⟨p.a, 0, none⟩), .int .i64 ((o.h : Int) + 1)] w (GP w p c ⟨s.zs.set (adr c o.h 0) (nTag x (uC x) (uN x) (uS x) 1), s.m + 3⟩ (.bool true)) := by
  have hmf : ∀ (fn : Fn) (first cap : Array Value) (w : World), (Instr.makeFunc fn first cap).run Tryz.prog w = .ok (.func fn first cap) w := fun _ _ _ _ => rfl
  have HC := Lib.hid (fun (w' : World) (m : Nat) (hG' : G w' p c ⟨s.zs, m⟩) => tc_yes0 104 Tryz.call104 hG' H ho x hx (uC x) (uN x) (uS x) 1 (Tag01 x).1 (Tag01 x).2.1 (Tag01 x).2.2.1 (Or.inr rfl) (fun w'' b hb' => tk_Kill _ _ _ _ _ _ _ w'' hb' hd))
  have HG := Lib.hid hG
  clear hG H ho hx hd
  go_enter Tryz.func47, Tryz.ntmps47
  have HT0 : Hid (Touch (inG p) w w) := Lib.hid (Touch.refl _ _)
  go_wp2_with fail
  refine (HC.out _ _ HG.out).mono ?_
  rintro e wm1 ⟨rfl, hG, hT⟩
  have HG1 := Lib.hid hG
  have HT1 : Hid (Touch (inG p) _ wm1) := Lib.hid (HT0.out.trans hT)
  clear hG hT
  go_wp2_with fail
  go_ret
  exact ⟨rfl, HG1.out, HT1.out⟩
theorem tt_Kill_dead (hG : G w p c s) (H : HeapAt c s.zs pool os) (ho : o ∈ os) (x : Int) (hx : nth s.zs (adr c o.h 0) = x) (hd : uD x = 1) : Calls Tryz.prog 47 #[.pointer (some ⟨p.a, 0, none⟩), .int .i64 ((o.h : Int) + 1)] w (GP w p c ⟨s.zs, s.m + 2⟩ (.bool false)) := by
  have hmf : ∀ (fn : Fn) (first cap : Array Value) (w : World), (Instr.makeFunc fn first cap).run Tryz.prog w = .ok (.func fn first cap) w := fun _ _ _ _ => rfl
  have HC := Lib.hid (fun (w' : World) (m : Nat) (hG' : G w' p c ⟨s.zs, m⟩) => tc_stay0 104 Tryz.call104 hG' H ho x hx (fun w'' b hb' => tk_Kill_no _ _ _ _ _ _ _ w'' hb' hd))
  have HG := Lib.hid hG
  clear hG H ho hx hd
  go_enter Tryz.func47, Tryz.ntmps47
  have HT0 : Hid (Touch (inG p) w w) := Lib.hid (Touch.refl _ _)
  go_wp2_with fail
  refine (HC.out _ _ HG.out).mono ?_
  rintro e wm1 ⟨rfl, hG, hT⟩
  have HG1 := Lib.hid hG
  have HT1 : Hid (Touch (inG p) _ wm1) := Lib.hid (HT0.out.trans hT)
  clear hG hT
  go_wp2_with fail
  go_ret
  exact ⟨rfl, HG1.out, HT1.out⟩
end
end Go.Proofs.YtljdbaddockfcaaGreat.Pk

/-
  What the functions of package tint return: Touch, and shadows.
-/
namespace Go.Proofs.YtljdbaddockfcaaGreat.Pk
open Go.RowKit
set_option linter.unusedVariables false
set_option linter.unusedSimpArgs false
set_option maxRecDepth 100000

section
variable {p : Pl} {c : Cf} {s : St} {pool : List Nat} {os : List Ob} {o : Ob} {r : Int} {w : World}
/-! ### Touch -/
/-! ### Deepen -/
/-! ### Lighten -/
theorem tt_Lighten_idle (ph : Int) (hG : G w p c s) (hph : nth s.zs 11 = ph) (h1 : ¬ ph = 1) (h2 : ¬ ph = 2) : Calls Tryz.prog 50 #[.pointer (some ⟨p.a, 0, none⟩), .int .i64 r] w (GP w p c ⟨s.zs, s.m + 1⟩ (.bool false)) := by
  have HG := Lib.hid hG
  have HF := Lib.hid hph
  have n1 : (ph != 1) = true := by simp [h1]
  have n2 : (ph != 2) = true := by simp [h2]
  clear hG hph h1 h2
  go_enter Tryz.func50, Tryz.ntmps50
  have HT0 : Hid (Touch (inG p) w w) := Lib.hid (Touch.refl _ _)
  go_wp2_with fail
  refine (tt_Phase HG.out _ HF.out).mono ?_
  rintro e wm1 ⟨rfl, hG, hT⟩
  have HG1 := Lib.hid hG
  have HT1 : Hid (Touch (inG p) _ wm1) := Lib.hid (HT0.out.trans hT)
  clear hG hT
  go_wp2_with fail
  go_ret
  exact ⟨rfl, HG1.out, HT1.out⟩
theorem tt_Lighten_no (ph : Int) (hph : nth s.zs 11 = ph) (h12 : ph = 1 ∨ ph = 2) (hG : G w p c s) (H : HeapAt c s.zs pool os) (hr : In64 r) (ho : obAt os r = none) : Calls Tryz.prog 50 #[.pointer (some ⟨p.a, 0, none⟩), .int .i64 r] w (GP w p c ⟨s.zs, s.m + (2 * askN (wordA c (prev r) 0) + 1)⟩ (.bool false)) := by
  have HS1 := Lib.hid (fun (w' : World) (m : Nat) (hG' : G w' p c ⟨s.zs, m⟩) => tt_Black_no hG' H hr ho)
  have HS2 := Lib.hid (fun (w' : World) (m : Nat) (hG' : G w' p c ⟨s.zs, m⟩) => tt_Shadow_no hG' H hr ho)
  have HG := Lib.hid hG
  have HF := Lib.hid hph
  clear hG hph H ho
  rcases h12 with rfl | rfl
  · go_enter Tryz.func50, Tryz.ntmps50
    have HT0 : Hid (Touch (inG p) w w) := Lib.hid (Touch.refl _ _)
    go_wp2_with fail
    refine (tt_Phase HG.out _ HF.out).mono ?_
    rintro e wm1 ⟨rfl, hG, hT⟩
    have HG1 := Lib.hid hG
    have HT1 : Hid (Touch (inG p) _ wm1) := Lib.hid (HT0.out.trans hT)
    clear hG hT
    go_wp2_with fail
    refine (HS1.out _ _ HG1.out).mono ?_
    rintro e wm2 ⟨rfl, hG, hT⟩
    have HG2 := Lib.hid hG
    have HT2 : Hid (Touch (inG p) _ wm2) := Lib.hid (HT1.out.trans hT)
    clear hG hT
    go_wp2_with fail
    refine (HS2.out _ _ HG2.out).mono ?_
    rintro e wm3 ⟨rfl, hG, hT⟩
    have HG3 := Lib.hid hG
    have HT3 : Hid (Touch (inG p) _ wm3) := Lib.hid (HT2.out.trans hT)
    clear hG hT
    go_wp2_with fail
    go_ret
    exact ⟨rfl, HG3.out.to' rfl (by show s.m + 1 + _ + _ = _; omega), HT3.out⟩
  · go_enter Tryz.func50, Tryz.ntmps50
    have HT0 : Hid (Touch (inG p) w w) := Lib.hid (Touch.refl _ _)
    go_wp2_with fail
    refine (tt_Phase HG.out _ HF.out).mono ?_
    rintro e wm1 ⟨rfl, hG, hT⟩
    have HG1 := Lib.hid hG
    have HT1 : Hid (Touch (inG p) _ wm1) := Lib.hid (HT0.out.trans hT)
    clear hG hT
    go_wp2_with fail
    refine (HS1.out _ _ HG1.out).mono ?_
    rintro e wm2 ⟨rfl, hG, hT⟩
    have HG2 := Lib.hid hG
    have HT2 : Hid (Touch (inG p) _ wm2) := Lib.hid (HT1.out.trans hT)
    clear hG hT
    go_wp2_with fail
    refine (HS2.out _ _ HG2.out).mono ?_
    rintro e wm3 ⟨rfl, hG, hT⟩
    have HG3 := Lib.hid hG
    have HT3 : Hid (Touch (inG p) _ wm3) := Lib.hid (HT2.out.trans hT)
    clear hG hT
    go_wp2_with fail
    go_ret
    exact ⟨rfl, HG3.out.to' rfl (by show s.m + 1 + _ + _ = _; omega), HT3.out⟩
theorem tt_Lighten_black (ph : Int) (hph : nth s.zs 11 = ph) (h12 : ph = 1 ∨ ph = 2) (hG : G w p c s) (H : HeapAt c s.zs pool os) (ho : o ∈ os) (x : Int) (hx : nth s.zs (adr c o.h 0) = x) (P : Int) (hP : nth s.zs 10 = P) (hc : uC x = P) : Calls Tryz.prog 50 #[.pointer (some ⟨p.a, 0, none⟩), .int .i64 ((o.h : Int) + 1)] w (GP w p c ⟨s.zs, s.m + 4⟩ (.bool false)) := by
  have HS1 := Lib.hid (fun (w' : World) (m : Nat) (hG' : G w' p c ⟨s.zs, m⟩) => tt_Black_yes hG' H ho x hx P hP)
  have HD : Hid (decide (uC x = P) = true) := Lib.hid (decide_eq_true hc)
  clear hx hP hc
  have HG := Lib.hid hG
  have HF := Lib.hid hph
  clear hG hph H ho
  rcases h12 with rfl | rfl
  · go_enter Tryz.func50, Tryz.ntmps50
    have HT0 : Hid (Touch (inG p) w w) := Lib.hid (Touch.refl _ _)
    go_wp2_with fail
    refine (tt_Phase HG.out _ HF.out).mono ?_
    rintro e wm1 ⟨rfl, hG, hT⟩
    have HG1 := Lib.hid hG
    have HT1 : Hid (Touch (inG p) _ wm1) := Lib.hid (HT0.out.trans hT)
    clear hG hT
    go_wp2_with fail
    refine (HS1.out _ _ HG1.out).mono ?_
    rw [HD.out]
    rintro e wm2 ⟨rfl, hG, hT⟩
    have HG2 := Lib.hid hG
    have HT2 : Hid (Touch (inG p) _ wm2) := Lib.hid (HT1.out.trans hT)
    clear hG hT
    go_wp2_with fail
    go_ret
    exact ⟨rfl, HG2.out, HT2.out⟩
  · go_enter Tryz.func50, Tryz.ntmps50
    have HT0 : Hid (Touch (inG p) w w) := Lib.hid (Touch.refl _ _)
    go_wp2_with fail
    refine (tt_Phase HG.out _ HF.out).mono ?_
    rintro e wm1 ⟨rfl, hG, hT⟩
    have HG1 := Lib.hid hG
    have HT1 : Hid (Touch (inG p) _ wm1) := Lib.hid (HT0.out.trans hT)
    clear hG hT
    go_wp2_with fail
    refine (HS1.out _ _ HG1.out).mono ?_
    rw [HD.out]
    rintro e wm2 ⟨rfl, hG, hT⟩
    have HG2 := Lib.hid hG
    have HT2 : Hid (Touch (inG p) _ wm2) := Lib.hid (HT1.out.trans hT)
    clear hG hT
    go_wp2_with fail
    go_ret
    exact ⟨rfl, HG2.out, HT2.out⟩
theorem tt_Lighten_none (ph : Int) (hph : nth s.zs 11 = ph) (h12 : ph = 1 ∨ ph = 2) (hG : G w p c s) (H : HeapAt c s.zs pool os) (ho : o ∈ os) (x : Int) (hx : nth s.zs (adr c o.h 0) = x) (P : Int) (hP : nth s.zs 10 = P) (hc : ¬ uC x = P) (n : Int) (k : Nat) (hSh : ∀ (w' : World) (m : Nat), G w' p c ⟨s.zs, m⟩ → Calls Tryz.prog 48 #[.pointer (some ⟨p.a, 0, none⟩), .int .i64 ((o.h : Int) + 1)] w' (GP w' p c ⟨s.zs, m + k⟩ (.int .i64 n))) (hn : n = 0) : Calls Tryz.prog 50 #[.pointer (some ⟨p.a, 0, none⟩), .int .i64 ((o.h : Int) + 1)] w (GP w p c ⟨s.zs, s.m + (4 + k)⟩ (.bool false)) := by
  have HS1 := Lib.hid (fun (w' : World) (m : Nat) (hG' : G w' p c ⟨s.zs, m⟩) => tt_Black_yes hG' H ho x hx P hP)
  have HD : Hid (decide (uC x = P) = false) := Lib.hid (decide_eq_false hc)
  subst hn
  have HS := Lib.hid hSh
  clear hx hP hc hSh
  have HG := Lib.hid hG
  have HF := Lib.hid hph
  clear hG hph H ho
  rcases h12 with rfl | rfl
  · go_enter Tryz.func50, Tryz.ntmps50
    have HT0 : Hid (Touch (inG p) w w) := Lib.hid (Touch.refl _ _)
    go_wp2_with fail
    refine (tt_Phase HG.out _ HF.out).mono ?_
    rintro e wm1 ⟨rfl, hG, hT⟩
    have HG1 := Lib.hid hG
    have HT1 : Hid (Touch (inG p) _ wm1) := Lib.hid (HT0.out.trans hT)
    clear hG hT
    go_wp2_with fail
    refine (HS1.out _ _ HG1.out).mono ?_
    rw [HD.out]
    rintro e wm2 ⟨rfl, hG, hT⟩
    have HG2 := Lib.hid hG
    have HT2 : Hid (Touch (inG p) _ wm2) := Lib.hid (HT1.out.trans hT)
    clear hG hT
    go_wp2_with fail
    refine (HS.out _ _ HG2.out).mono ?_
    rintro e wm3 ⟨rfl, hG, hT⟩
    have HG3 := Lib.hid hG
    have HT3 : Hid (Touch (inG p) _ wm3) := Lib.hid (HT2.out.trans hT)
    clear hG hT
    go_wp2_with fail
    go_ret
    exact ⟨rfl, HG3.out.to' rfl (by show s.m + 1 + 3 + k = _; omega), HT3.out⟩
  · go_enter Tryz.func50, Tryz.ntmps50
    have HT0 : Hid (Touch (inG p) w w) := Lib.hid (Touch.refl _ _)
    go_wp2_with fail
    refine (tt_Phase HG.out _ HF.out).mono ?_
    rintro e wm1 ⟨rfl, hG, hT⟩
    have HG1 := Lib.hid hG
    have HT1 : Hid (Touch (inG p) _ wm1) := Lib.hid (HT0.out.trans hT)
    clear hG hT
    go_wp2_with fail
    refine (HS1.out _ _ HG1.out).mono ?_
    rw [HD.out]
    rintro e wm2 ⟨rfl, hG, hT⟩
    have HG2 := Lib.hid hG
    have HT2 : Hid (Touch (inG p) _ wm2) := Lib.hid (HT1.out.trans hT)
    clear hG hT
    go_wp2_with fail
    refine (HS.out _ _ HG2.out).mono ?_
    rintro e wm3 ⟨rfl, hG, hT⟩
    have HG3 := Lib.hid hG
    have HT3 : Hid (Touch (inG p) _ wm3) := Lib.hid (HT2.out.trans hT)
    clear hG hT
    go_wp2_with fail
    go_ret
    exact ⟨rfl, HG3.out.to' rfl (by show s.m + 1 + 3 + k = _; omega), HT3.out⟩
theorem tt_Lighten_yes (ph : Int) (hph : nth s.zs 11 = ph) (h12 : ph = 1 ∨ ph = 2) (hG : G w p c s) (H : HeapAt c s.zs pool os) (ho : o ∈ os) (x : Int) (hx : nth s.zs (adr c o.h 0) = x) (P : Int) (hP : nth s.zs 10 = P) (hc : ¬ uC x = P) (n : Int) (k : Nat) (hSh : ∀ (w' : World) (m : Nat), G w' p c ⟨s.zs, m⟩ → Calls Tryz.prog 48 #[.pointer (some ⟨p.a, 0, none⟩), .int .i64 ((o.h : Int) + 1)] w' (GP w' p c ⟨s.zs, m + k⟩ (.int .i64 n))) (hn : 0 < n) (hn1 : n ≤ 4294967295) : Calls Tryz.prog 50 #[.pointer (some ⟨p.a, 0, none⟩), .int .i64 ((o.h : Int) + 1)] w (GP w p c ⟨s.zs.set (adr c o.h 4) (n - 1), s.m + (5 + k)⟩ (.bool true)) := by
  have HS1 := Lib.hid (fun (w' : World) (m : Nat) (hG' : G w' p c ⟨s.zs, m⟩) => tt_Black_yes hG' H ho x hx P hP)
  have hA := H.obs o ho
  have hW := hG.may.w
  have HB := Lib.hid hA.hlt
  have HV : Hid (4 < c.W) := Lib.hid (by omega)
  have e1 := w64_ob hG.may hA.hlt
  clear hA hW
  have HD : Hid (decide (uC x = P) = false) := Lib.hid (decide_eq_false hc)
  have HS := Lib.hid hSh
  have hw1 : IntKind.i64.wrap (n - 1) = n - 1 := IntWalk.i64_in _ (by omega)
  have hw2 : IntKind.u32.wrap (n - 1) = n - 1 := IntWalk.u32_in _ (by omega)
  have HN0 : Hid (0 ≤ n - 1) := Lib.hid (by omega)
  have HN1 : Hid (n - 1 ≤ 4294967295) := Lib.hid (by omega)
  clear hx hP hc hSh hn1
  have HG := Lib.hid hG
  have HF := Lib.hid hph
  clear hG hph H ho
  rcases h12 with rfl | rfl
  · go_enter Tryz.func50, Tryz.ntmps50
    have HT0 : Hid (Touch (inG p) w w) := Lib.hid (Touch.refl _ _)
    go_wp2_with fail
    refine (tt_Phase HG.out _ HF.out).mono ?_
    rintro e wm1 ⟨rfl, hG, hT⟩
    have HG1 := Lib.hid hG
    have HT1 : Hid (Touch (inG p) _ wm1) := Lib.hid (HT0.out.trans hT)
    clear hG hT
    go_wp2_with fail
    refine (HS1.out _ _ HG1.out).mono ?_
    rw [HD.out]
    rintro e wm2 ⟨rfl, hG, hT⟩
    have HG2 := Lib.hid hG
    have HT2 : Hid (Touch (inG p) _ wm2) := Lib.hid (HT1.out.trans hT)
    clear hG hT
    go_wp2_with fail
    refine (HS.out _ _ HG2.out).mono ?_
    rintro e wm3 ⟨rfl, hG, hT⟩
    have HG3 := Lib.hid hG
    have HT3 : Hid (Touch (inG p) _ wm3) := Lib.hid (HT2.out.trans hT)
    clear hG hT
    go_wp2_with fail
    refine (setwordW p c _ o.h 4 _ _ (n - 1) _ HG3.out HB.out HV.out rfl rfl HN0.out HN1.out).mono ?_
    rintro e wm4 ⟨rfl, hG, hT⟩
    have HG4 := Lib.hid hG
    have HT4 : Hid (Touch (inG p) _ wm4) := Lib.hid (HT3.out.trans hT)
    clear hG hT
    go_wp2_with fail
    go_ret
    exact ⟨rfl, HG4.out.to' rfl (by show s.m + 1 + 3 + k + 1 = _; omega), HT4.out⟩
  · go_enter Tryz.func50, Tryz.ntmps50
    have HT0 : Hid (Touch (inG p) w w) := Lib.hid (Touch.refl _ _)
    go_wp2_with fail
    refine (tt_Phase HG.out _ HF.out).mono ?_
    rintro e wm1 ⟨rfl, hG, hT⟩
    have HG1 := Lib.hid hG
    have HT1 : Hid (Touch (inG p) _ wm1) := Lib.hid (HT0.out.trans hT)
    clear hG hT
    go_wp2_with fail
    refine (HS1.out _ _ HG1.out).mono ?_
    rw [HD.out]
    rintro e wm2 ⟨rfl, hG, hT⟩
    have HG2 := Lib.hid hG
    have HT2 : Hid (Touch (inG p) _ wm2) := Lib.hid (HT1.out.trans hT)
    clear hG hT
    go_wp2_with fail
    refine (HS.out _ _ HG2.out).mono ?_
    rintro e wm3 ⟨rfl, hG, hT⟩
    have HG3 := Lib.hid hG
    have HT3 : Hid (Touch (inG p) _ wm3) := Lib.hid (HT2.out.trans hT)
    clear hG hT
    go_wp2_with fail
    refine (setwordW p c _ o.h 4 _ _ (n - 1) _ HG3.out HB.out HV.out rfl rfl HN0.out HN1.out).mono ?_
    rintro e wm4 ⟨rfl, hG, hT⟩
    have HG4 := Lib.hid hG
    have HT4 : Hid (Touch (inG p) _ wm4) := Lib.hid (HT3.out.trans hT)
    clear hG hT
    go_wp2_with fail
    go_ret
    exact ⟨rfl, HG4.out.to' rfl (by show s.m + 1 + 3 + k + 1 = _; omega), HT4.out⟩
end
end Go.Proofs.YtljdbaddockfcaaGreat.Pk

/-
  Package tint over a world: the bundle tintFns.
-/
namespace Go.Proofs.YtljdbaddockfcaaGreat.Pk
open Go.RowKit
set_option linter.unusedVariables false
set_option linter.unusedSimpArgs false
set_option maxRecDepth 100000

section
variable {c : Cf} {D D' : Wd} {zs zs' : List Int} {t : Th} {r : Int}
theorem Wz.set (h : Wz c zs) (k : Nat) {v : Int} (h0 : 0 ≤ v) (h1 : v ≤ 4294967295) : Wz c (zs.set k v) := ⟨h.may, by simp; exact h.len, h.wf.set k h0 h1⟩
theorem ob_x (zs : List Int) (t : Th) : nth zs (adr c t.ob.h 0) = nth zs (adr c t.h 0) := rfl
theorem ask_le1 (a : Option Nat) : askN a ≤ 1 := askN_le a
/-! ### Registers -/
/-! ### Marks -/
theorem tf_none (R : RepW c zs D) (hf : D.find r = none) : obAt D.obs r = none := by rw [obAt_find R r, hf]; rfl
/-- A mark, told by a world's. -/
theorem tf_tag (R : RepW c zs D) (hf : D.find r = some t) {c' n' s' d' : Int} (hz : Wz c zs) (hc : c' = 0 ∨ c' = 1) (hn : n' = 0 ∨ n' = 1) (hs : s' = 0 ∨ s' = 1) (hd : d' = uD (nth zs (adr c t.h 0)) ∨ d' = 1) (f : Mrk → Mrk)
    (hm : f t.mr = { t.mr with color := c', count := n', shade := s', dead := decide (d' = 1) }) : RepW c (zs.set (adr c t.h 0) (nTag (nth zs (adr c t.h 0)) c' n' s' d')) (D.mark r f) := by
  obtain ⟨h1, h2, h3, h4, h5⟩ := R.tagOf hf
  refine R.newTag hz.may hz.len hf hc hn hs ?_ (fun h => ?_) hm
  · have := (Tag01 (nth zs (adr c t.h 0))).2.2.2
    rcases hd with rfl | rfl
    · exact this
    · exact .inr rfl
  · rcases hd with rfl | rfl
    · exact h5.dead1 h
    · rfl
theorem tf_kill (R : RepW c zs D) (hz : Wz c zs) (hf : D.find r = some t) : RepW c (zs.set (adr c t.h 0) (nTag (nth zs (adr c t.h 0)) (uC (nth zs (adr c t.h 0))) (uN (nth zs (adr c t.h 0))) (uS (nth zs (adr c t.h 0))) 1)) (D.kill r) := by
  obtain ⟨h1, h2, h3, h4, h5⟩ := R.tagOf hf
  exact tf_tag R hf hz (Tag01 _).1 (Tag01 _).2.1 (Tag01 _).2.2.1 (.inr rfl) _ (by simp only; rw [h5.cC, h5.cN, h5.cS]; rfl)
/-- The shadow, as the program asks for it. -/
theorem tf_shadow (R : RepW c zs D) (hz : Wz c zs) (hf : D.find r = some t) : ∃ k, k ≤ 4 ∧ 0 ≤ D.shd r ∧ D.shd r ≤ 4294967295 ∧ ∀ (p : Pl) (w : World) (m : Nat), G w p c ⟨zs, m⟩ → Calls Tryz.prog 48 #[.pointer (some ⟨p.a, 0, none⟩), .int .i64 ((t.ob.h : Int) + 1)] w (GP w p c ⟨zs, m + k⟩ (.int .i64 (D.shd r))) := by
  obtain ⟨h1, h2, h3, h4, h5⟩ := R.tagOf hf
  have hP := R.reg 10 (by omega) (by omega)
  have hwf := hz.wf (adr c t.h 4)
  by_cases e : t.mr.shade = D.parity
  · have es : D.shd r = nth zs (adr c t.h 4) := by unfold Wd.shd; rw [hf]; simp only; rw [if_pos e, h5.w4]
    refine ⟨4, by omega, by rw [es]; exact hwf.1, by rw [es]; exact hwf.2, fun p w m hG => ?_⟩
    rw [es]
    exact tt_Shadow_yes (s := ⟨zs, m⟩) (o := t.ob) hG R.heap h3 (nth zs (adr c t.h 0)) (ob_x zs t) D.parity hP (by show uS (nth zs (adr c t.h 0)) = _; rw [h5.cS]; exact e) _ rfl
  · have es : D.shd r = 0 := by unfold Wd.shd; rw [hf]; simp only; rw [if_neg e]
    refine ⟨3, by omega, by rw [es]; decide, by rw [es]; decide, fun p w m hG => ?_⟩
    rw [es]
    exact tt_Shadow_0 (s := ⟨zs, m⟩) (o := t.ob) hG R.heap h3 (nth zs (adr c t.h 0)) (ob_x zs t) D.parity hP (by show ¬ uS (nth zs (adr c t.h 0)) = _; rw [h5.cS]; exact e)
theorem tf_lighten (R : RepW c zs D) (hz : Wz c zs) (hf : D.find r = some t) (hs : D.shd r ≠ 0) : RepW c (zs.set (adr c t.h 4) (D.shd r - 1)) (D.mark r (fun m => { m with shadow := m.shadow - 1 })) := by
  obtain ⟨h1, h2, h3, h4, h5⟩ := R.tagOf hf
  have es : D.shd r = t.mr.shadow := by
    unfold Wd.shd at hs ⊢
    rw [hf] at hs ⊢
    simp only at hs ⊢
    split
    · rfl
    · rename_i e; rw [if_neg e] at hs; exact absurd rfl hs
  rw [es]
  exact R.setOwn hz.may hz.len hf (v := 4) (.inr rfl) (x := t.mr.shadow - 1) (f := fun m => { m with shadow := m.shadow - 1 }) rfl
theorem lighten_stay {D : Wd} {r : Int} (h : D.lighter r = false) : D.lighten r = D := by
  unfold Wd.lighten
  rw [if_neg (by rw [h]; decide)]
/-! ### Touched: it stands in the ring -/
end

/-! ### The bundle -/
set_option maxHeartbeats 1000000 in
theorem tf_does_kill : ∀ c D (r : Int), In64 r → Does c D 47 [.int .i64 r] 3 (D.kill r) (.bool ((D.find r).isSome && !D.dead r)) := fun c D r hr zs hz R => by
  cases hf : D.find r with
  | none => exact ⟨zs, ⟨_, by have := ask_le1 (wordA c (prev r) 0); omega, fun p m w hG => tt_Kill_no hG R.heap hr (tf_none R hf)⟩, by rw [show D.kill r = D from mark_none _ hf]; exact R⟩
  | some t =>
    obtain ⟨h1, h2, h3, h4, h5⟩ := R.tagOf hf
    have e : D.dead r = t.mr.dead := by unfold Wd.dead; rw [hf]
    rw [e]
    cases hd : t.mr.dead with
    | false =>
      have K := tf_kill R hz hf
      subst h4
      refine ⟨_, ?_, K⟩
      exact ⟨3, by omega, fun p m w hG => tt_Kill_yes (s := ⟨zs, m⟩) (o := t.ob) hG R.heap h3 (nth zs (adr c t.h 0)) (ob_x zs t) (h5.dead0 hd)⟩
    | true =>
      have eD : D.kill r = D := by
        obtain ⟨i, hi, ht⟩ := find_some hf
        unfold Wd.kill Wd.mark Wd.upd
        rw [upd_ix hi ht, show ({ t with mr := { t.mr with dead := true } } : Th) = t by rw [← hd], set_self_get ht]
      rw [eD]
      subst h4
      exact ⟨zs, ⟨2, by omega, fun p m w hG => tt_Kill_dead (s := ⟨zs, m⟩) (o := t.ob) hG R.heap h3 (nth zs (adr c t.h 0)) (ob_x zs t) (h5.dead1 hd)⟩, R⟩
set_option maxHeartbeats 1000000 in
theorem tf_does_lighten : ∀ c D (r : Int), In64 r → Does c D 50 [.int .i64 r] 9 (D.lighten r) (.bool (D.lighter r)) := fun c D r hr zs hz R => by
  have hP := R.reg 10 (by omega) (by omega)
  have hph := R.reg 11 (by omega) (by omega)
  by_cases h12 : D.phase = 1 ∨ D.phase = 2
  · have h12b : (decide (D.phase = 1) || decide (D.phase = 2)) = true := by simpa using h12
    cases hf : D.find r with
    | none =>
      have e : D.lighter r = false := by unfold Wd.lighter Wd.shd; rw [hf]; simp
      rw [lighten_stay e, e]
      exact ⟨zs, ⟨_, by have := ask_le1 (wordA c (prev r) 0); omega, fun p m w hG => tt_Lighten_no _ hph h12 hG R.heap hr (tf_none R hf)⟩, R⟩
    | some t =>
      obtain ⟨h1, h2, h3, h4, h5⟩ := R.tagOf hf
      have eb : D.black r = decide (t.mr.color = D.parity) := by unfold Wd.black; rw [hf]
      by_cases hc : t.mr.color = D.parity
      · have e : D.lighter r = false := by unfold Wd.lighter; rw [eb]; simp [hc]
        rw [lighten_stay e, e]
        subst h4
        exact ⟨zs, ⟨4, by omega, fun p m w hG => tt_Lighten_black (s := ⟨zs, m⟩) (o := t.ob) _ hph h12 hG R.heap h3 (nth zs (adr c t.h 0)) (ob_x zs t) _ hP (h5.cC.trans hc)⟩, R⟩
      · have hcn : ¬ uC (nth zs (adr c t.h 0)) = D.parity := by rw [h5.cC]; exact hc
        obtain ⟨k, hk, n0, n1, h⟩ := tf_shadow R hz hf
        by_cases hs : D.shd r = 0
        · have e : D.lighter r = false := by unfold Wd.lighter; rw [hs]; simp
          rw [lighten_stay e, e]
          subst h4
          exact ⟨zs, ⟨4 + k, by omega, fun p m w hG => tt_Lighten_none (s := ⟨zs, m⟩) (o := t.ob) _ hph h12 hG R.heap h3 (nth zs (adr c t.h 0)) (ob_x zs t) _ hP hcn _ k (fun w' m' hG' => h p w' m' hG') hs⟩, R⟩
        · have e : D.lighter r = true := by unfold Wd.lighter; rw [eb, h12b]; simp [hc, hs]
          have K := tf_lighten R hz hf hs
          rw [show D.lighten r = D.mark r (fun m => { m with shadow := m.shadow - 1 }) by unfold Wd.lighten; rw [if_pos e], e]
          subst h4
          refine ⟨_, ?_, K⟩
          exact ⟨5 + k, by omega, fun p m w hG => tt_Lighten_yes (s := ⟨zs, m⟩) (o := t.ob) _ hph h12 hG R.heap h3 (nth zs (adr c t.h 0)) (ob_x zs t) _ hP hcn _ k (fun w' m' hG' => h p w' m' hG') (by omega) n1⟩
  · have e : D.lighter r = false := by unfold Wd.lighter; rw [show (decide (D.phase = 1) || decide (D.phase = 2)) = false by simpa using h12]; rfl
    rw [lighten_stay e, e]
    exact ⟨zs, ⟨1, by omega, fun p m w hG => tt_Lighten_idle _ hG hph (fun q => h12 (.inl q)) (fun q => h12 (.inr q))⟩, R⟩
set_option maxHeartbeats 1000000 in
theorem tf_does_counted : ∀ c D (r i : Int), In64 r → Does c D 51 [.int .i64 r, .int .i64 i] 6 D (.bool (D.counted r i)) := fun c D r i hr zs hz R => by
  have hP := R.reg 10 (by omega) (by omega)
  cases hf : D.find r with
  | none =>
    rw [show D.counted r i = false by unfold Wd.counted; rw [hf]]
    exact ⟨zs, ⟨_, by have := ask_le1 (wordA c (prev r) 0); omega, fun p m w hG => tt_Counted_no _ hG R.heap hr (tf_none R hf)⟩, R⟩
  | some t =>
    obtain ⟨h1, h2, h3, h4, h5⟩ := R.tagOf hf
    have e : D.counted r i = (decide (0 ≤ i) && (decide (t.mr.count = D.parity) || (decide (D.phase = 1) && decide (D.cursor = r - 1) && decide (i < D.field)))) := by unfold Wd.counted; rw [hf]
    by_cases hi : i < 0
    · rw [show D.counted r i = false by rw [e, show decide (0 ≤ i) = false from decide_eq_false (by omega)]; rfl]
      subst h4
      exact ⟨zs, ⟨2, by omega, fun p m w hG => tt_Counted_neg (s := ⟨zs, m⟩) (o := t.ob) _ hG R.heap h3 (nth zs (adr c t.h 0)) (ob_x zs t) hi⟩, R⟩
    · have hi' : decide (0 ≤ i) = true := decide_eq_true (by omega)
      by_cases hn : t.mr.count = D.parity
      · rw [show D.counted r i = true by rw [e, hi', decide_eq_true hn]; rfl]
        subst h4
        exact ⟨zs, ⟨3, by omega, fun p m w hG => tt_Counted_yes (s := ⟨zs, m⟩) (o := t.ob) _ hG R.heap h3 (nth zs (adr c t.h 0)) (ob_x zs t) _ hP hi (h5.cN.trans hn)⟩, R⟩
      · have hnn : ¬ uN (nth zs (adr c t.h 0)) = D.parity := by rw [h5.cN]; exact hn
        have e2 : D.counted r i = (decide (D.phase = 1) && decide (D.cursor = r - 1) && decide (i < D.field)) := by rw [e, hi', decide_eq_false hn]; simp
        have hph := R.reg 11 (by omega) (by omega)
        have hcu := R.reg 12 (by omega) (by omega)
        have hfi := R.reg 13 (by omega) (by omega)
        by_cases hp1 : D.phase = 1
        · by_cases hc1 : D.cursor = (t.h : Int)
          · rw [show D.counted r i = decide (i < D.field) by rw [e2, decide_eq_true hp1, decide_eq_true (show D.cursor = r - 1 by omega)]; simp]
            subst h4
            exact ⟨zs, ⟨6, by omega, fun p m w hG => tt_Counted_in (s := ⟨zs, m⟩) (o := t.ob) _ hG R.heap h3 (nth zs (adr c t.h 0)) (ob_x zs t) _ hP hi hnn _ _ _ hph hcu hfi hp1 hc1⟩, R⟩
          · rw [show D.counted r i = false by rw [e2, decide_eq_false (show ¬ D.cursor = r - 1 by omega)]; simp]
            subst h4
            exact ⟨zs, ⟨6, by omega, fun p m w hG => tt_Counted_at (s := ⟨zs, m⟩) (o := t.ob) _ hG R.heap h3 (nth zs (adr c t.h 0)) (ob_x zs t) _ hP hi hnn _ _ _ hph hcu hfi hp1 hc1⟩, R⟩
        · rw [show D.counted r i = false by rw [e2, decide_eq_false hp1]; simp]
          subst h4
          exact ⟨zs, ⟨6, by omega, fun p m w hG => tt_Counted_ph (s := ⟨zs, m⟩) (o := t.ob) _ hG R.heap h3 (nth zs (adr c t.h 0)) (ob_x zs t) _ hP hi hnn _ _ _ hph hcu hfi hp1⟩, R⟩
end Go.Proofs.YtljdbaddockfcaaGreat.Pk

/-
  Which world a ground's words stand for, when one leaves the ring, is laid into the grave or taken from it, when a field is set, a leaf shed, an object ended. No program in sight.
-/
namespace Go.Proofs.YtljdbaddockfcaaGreat.Pk
open Go.RowKit
set_option linter.unusedVariables false
set_option linter.unusedSimpArgs false

def Wd.lessRing (D : Wd) (h : Nat) : Wd := { D with ring := D.ring.filter (fun b => b != h) }
/-- The pointer field i of r's object is set. -/
def Wd.setP (D : Wd) (r : Int) (i : Nat) (x : Int) : Wd := D.upd r (fun t => { t with pt := t.pt.set i x })
/-- The leaf j of r's object, which is the block b, is shed. -/
def Wd.cutLeaf (D : Wd) (r : Int) (j b : Nat) : Wd := { D.upd r (fun t => { t with lv := t.lv.set j (-1) }) with clean := b :: D.clean }
/-- r's object, whose head is h, is ended. -/
def Wd.endAt (D : Wd) (r : Int) (h : Nat) : Wd := { D.upd r (fun t => { t with ended := true }) with clean := h :: D.clean }

theorem filter_split {l1 l2 : List Nat} {b : Nat} (hn : (l1 ++ b :: l2).Nodup) : (l1 ++ b :: l2).filter (fun x => x != b) = l1 ++ l2 := by
  rw [List.nodup_append] at hn
  obtain ⟨h1, h2, h3⟩ := hn
  have h4 := List.nodup_cons.1 h2
  rw [List.filter_append, List.filter_cons]
  have e1 : l1.filter (fun x => x != b) = l1 := List.filter_eq_self.2 (fun x hx => by simp; exact h3 x hx b (by simp))
  have e2 : l2.filter (fun x => x != b) = l2 := List.filter_eq_self.2 (fun x hx => by simp; exact fun e => h4.1 (e ▸ hx))
  rw [e1, e2]
  simp
theorem addZ_out {c : Cf} {zs : List Int} {b i : Nat} (h3 : i ≠ 3) (h4 : i ≠ 4) (h5 : i ≠ 5) (hb : i ≠ lnk c b) (hl : nth zs 4 ≠ 0 → i ≠ lnk c (nth zs 4 - 1).toNat) : nth (addZ c 1 b zs) i = nth zs i := by
  by_cases hlt : i < zs.length
  · rw [show nth (addZ c 1 b zs) i = addN c 1 b zs i from ofN_nth _ hlt]
    unfold addN
    rw [if_neg (by omega), if_neg (by omega), if_neg (by omega), if_neg hb, if_neg]
    rintro ⟨e1, e2⟩
    exact hl e1 e2
  · rw [nth_out (by rw [addZ_length]; omega), nth_out (by omega)]
theorem takeZ_out {c : Cf} {zs : List Int} {b i : Nat} (h3 : i ≠ 3) (h4 : i ≠ 4) (h5 : i ≠ 5) (hb : i ≠ lnk c b) : nth (takeZ c 1 b zs) i = nth zs i := by
  by_cases hlt : i < zs.length
  · rw [show nth (takeZ c 1 b zs) i = takeN c 1 b zs i from ofN_nth _ hlt]
    unfold takeN
    rw [if_neg (by omega), if_neg (by omega), if_neg (by omega), if_neg hb]
  · rw [nth_out (by rw [takeZ_length]; omega), nth_out (by omega)]

section
variable {c : Cf} {D D' : Wd} {zs zs' : List Int} {t s : Th} {r : Int}
theorem RepW.ringMem (R : RepW c zs D) (hm : c.May) {x : Nat} (hx : x ∈ D.ring) : ∃ u, u ∈ D.live ∧ u.h = x := by
  obtain ⟨o, ho, e⟩ := R.heap.ringHead hm R.ring hx
  obtain ⟨u, hu, rfl⟩ := List.mem_map.1 ho
  exact ⟨u, hu, e⟩
theorem RepW.same (R : RepW c zs D) (hu : t ∈ D.live) (hv : s ∈ D.live) (e : t.h = s.h) : t = s := by
  have h1 := R.findIt hu
  have h2 := R.findIt hv
  rw [e] at h1
  rw [h1] at h2
  cases h2
  rfl
/-! ### Out of the ring -/
theorem tf_ringCut (R : RepW c zs D) (hz : Wz c zs) (hf : D.find r = some t) (hn : t.h ∈ D.ring) : RepW c (ringCutZ c t.h zs) (D.lessRing t.h) := by
  have hm := hz.may
  have hw := hm.w
  obtain ⟨h1, h2, h3, h4, h5⟩ := R.tagOf hf
  obtain ⟨l1, l2, e⟩ := split_of hn
  have hR := R.ring
  rw [e] at hR
  have eD : (D.lessRing t.h).ring = l1 ++ l2 := by
    show D.ring.filter _ = _
    have := R.ring.nd
    rw [e] at this ⊢
    exact filter_split this
  obtain ⟨K1, K2, K3⟩ := R.heap.ringCut (o := t.ob) hR hm hz.len h3
  have hsub : ∀ x, x ∈ l1 ++ l2 → x ∈ D.ring ∧ x ≠ t.h := fun x hx => by
    rw [← eD] at hx
    have := List.mem_filter.1 (show x ∈ D.ring.filter (fun b => b != t.h) from hx)
    exact ⟨this.1, by simpa using this.2⟩
  have hng : t.h + 1 ∉ D.grave := fun hg => (R.bur t (find_live hf).1 hg).2.2.2 hn
  have out : ∀ i, RingOut c (l1 ++ l2) t.h i → nth (ringCutZ c t.h zs) i = nth zs i := fun i hi => ringCut_out hR hz.len hi
  have oreg : ∀ i, i < 24 → i ≠ 7 → i ≠ 8 → i ≠ 9 → nth (ringCutZ c t.h zs) i = nth zs i := fun i h24 a7 a8 a9 => out i ⟨a7, a8, a9, by have := adr_24 c t.h 0; omega, fun x _ => ⟨by have := adr_24 c x 6; omega, by have := adr_24 c x 7; omega⟩⟩
  have oown : ∀ b u, u < 8 → u ≠ 0 → u ≠ 6 → u ≠ 7 → nth (ringCutZ c t.h zs) (adr c b u) = nth zs (adr c b u) := fun b u hu a0 a6 a7 => out _ ⟨by have := adr_24 c b u; omega, by have := adr_24 c b u; omega, by have := adr_24 c b u; omega, fun e => a0 (adr_inj (by omega) (by omega) e).2, fun x _ => ⟨fun e => a6 (adr_inj (by omega) (by omega) e).2, fun e => a7 (adr_inj (by omega) (by omega) e).2⟩⟩
  have hlt := R.hlt (find_live hf).1
  have hmk : uG (nth zs (adr c t.h 0)) = 1 := (R.ring.mrk _ hlt).2 hn
  have otag : ∀ b, b < c.N → uC (nth (ringCutZ c t.h zs) (adr c b 0)) = uC (nth zs (adr c b 0)) ∧ uN (nth (ringCutZ c t.h zs) (adr c b 0)) = uN (nth zs (adr c b 0)) ∧ uS (nth (ringCutZ c t.h zs) (adr c b 0)) = uS (nth zs (adr c b 0)) ∧ uD (nth (ringCutZ c t.h zs) (adr c b 0)) = uD (nth zs (adr c b 0)) := fun b hb => by
    rw [ringCut_tag hm hz.len hb]
    by_cases e : b = t.h
    · subst e
      rw [if_pos rfl]
      unfold uG at hmk
      unfold uC uN uS uD
      omega
    · rw [if_neg e]
      exact ⟨rfl, rfl, rfl, rfl⟩
  refine R.frame hm K2 rfl rfl rfl rfl (fun u hu => ⟨u, hu, rfl, rfl, rfl, rfl⟩) (fun u hu => ?_) (by rw [eD]; exact K1) (R.grave.same (fun j j1 j2 => oreg j (by omega) (by omega) (by omega) (by omega)) (fun b _ => oown b 5 (by omega) (by omega) (by omega) (by omega))) (by rw [oreg 6 (by omega) (by omega) (by omega) (by omega)]; exact R.r6) (fun j j1 j2 => by rw [oreg j (by omega) (by omega) (by omega) (by omega)]; exact R.reg j j1 j2) R.par R.gv (fun u hu hug => ?_)
  · have ho := R.own u hu
    obtain ⟨a1, a2, a3, a4⟩ := otag u.h (R.hlt hu)
    exact ⟨a1.trans ho.cC, a2.trans ho.cN, a3.trans ho.cS, a4.trans ho.cD, by rw [oown _ 3 (by omega) (by omega) (by omega) (by omega)]; exact ho.w3, by rw [oown _ 4 (by omega) (by omega) (by omega) (by omega)]; exact ho.w4⟩
  · obtain ⟨b1, b2, b3, b4⟩ := R.bur u hu hug
    have hne : u.h ≠ t.h := fun e => hng (e ▸ hug)
    have hx : ∀ v, v < 8 → v ≠ 0 → nth (ringCutZ c t.h zs) (adr c u.h v) = nth zs (adr c u.h v) := fun v hv hv0 => out _ ⟨by have := adr_24 c u.h v; omega, by have := adr_24 c u.h v; omega, by have := adr_24 c u.h v; omega, fun e => hv0 (adr_inj (by omega) (by omega) e).2, fun x hx => by
      have : u.h ≠ x := by
        rcases hx with rfl | hx
        · exact hne
        · exact fun e => b4 (e ▸ (hsub x hx).1)
      exact ⟨fun e => this (adr_inj (by omega) (by omega) e).1, fun e => this (adr_inj (by omega) (by omega) e).1⟩⟩
    exact ⟨b1, by rw [hx 6 (by omega) (by omega)]; exact b2, by rw [hx 7 (by omega) (by omega)]; exact b3, fun hin => by rw [eD] at hin; exact b4 (hsub _ hin).1⟩
/-! ### What is left of a dead one -/
theorem RepW.setLf (R : RepW c zs D) (hm : c.May) (hz : zs.length = c.size) (hf : D.find r = some t) {v : Nat} (hv : v = 6 ∨ v = 7) {x : Int} {f : Mrk → Mrk}
    (hm' : f t.mr = if v = 6 then { t.mr with left := x } else { t.mr with leaves := x }) (hn : t.h ∉ D.ring) : RepW c (zs.set (adr c t.h v) x) (D.mark r f) := by
  have hw := hm.w
  obtain ⟨htl, hr⟩ := find_live hf
  have hlt := R.hlt htl
  have hne : ∀ a u, u < 8 → (a ≠ t.h ∨ u ≠ v) → nth (zs.set (adr c t.h v) x) (adr c a u) = nth zs (adr c a u) := fun a u hu hn => nth_set_ne (fun e => by
    have := adr_inj (c := c) (by omega) (by omega) e
    rcases hn with hn | hn
    · exact hn this.1.symm
    · exact hn this.2.symm) x
  have hself : nth (zs.set (adr c t.h v) x) (adr c t.h v) = x := nth_set_eq (by rw [hz]; exact adr_lt hlt (by omega)) x
  have hreg : ∀ r, r < 24 → nth (zs.set (adr c t.h v) x) r = nth zs r := fun r hr => nth_set_ne (fun e => by have := adr_24 c t.h v; omega) x
  have kd : (f t.mr).dead = t.mr.dead := by rw [hm']; split <;> rfl
  refine R.frame hm ⟨by simp, fun i hi hne' => nth_set_ne (fun e => hne' t.ob (R.obMem htl) v (by omega) (by omega) (by omega) e.symm) x, fun o ho => by rw [hne o.h 0 (by omega) (.inr (by omega))]; exact ⟨(R.heap.obs o ho).tok, rfl⟩⟩ rfl rfl rfl (obs_mark f) (fun s hs => live_mark' R hf hs) (fun s hs => ?_)
    (R.ring.congr (fun j hj => hreg j (by omega)) (fun b _ => hne b 0 (by omega) (.inr (by omega))) (fun b hb => ⟨hne b 6 (by omega) (.inl (fun e => hn (e ▸ hb))), hne b 7 (by omega) (.inl (fun e => hn (e ▸ hb)))⟩)) (R.grave.same (fun j h1 h2 => hreg j (by omega)) (fun b _ => hne b 5 (by omega) (.inr (by omega)))) (by rw [hreg 6 (by omega)]; exact R.r6) (fun j h1 h2 => by rw [hreg j (by omega)]; exact R.reg j h1 h2) R.par (fun q hq => gv_mark R f q hq) (fun s hs hg' => ?_)
  · have h0 : ∀ b u, u < 8 → u ≠ 6 → u ≠ 7 → nth (zs.set (adr c t.h v) x) (adr c b u) = nth zs (adr c b u) := fun b u hu a6 a7 => hne b u hu (.inr (by omega))
    rcases live_mark R hf hs with rfl | ⟨h, hn⟩
    · have := R.own t htl
      have e1 : (f t.mr).color = t.mr.color := by rw [hm']; split <;> rfl
      have e2 : (f t.mr).count = t.mr.count := by rw [hm']; split <;> rfl
      have e3 : (f t.mr).shade = t.mr.shade := by rw [hm']; split <;> rfl
      have e4 : (f t.mr).refs = t.mr.refs := by rw [hm']; split <;> rfl
      have e5 : (f t.mr).shadow = t.mr.shadow := by rw [hm']; split <;> rfl
      refine ⟨?_, ?_, ?_, ?_, ?_, ?_⟩ <;> simp only [h0 t.h 0 (by omega) (by omega) (by omega), h0 t.h 3 (by omega) (by omega) (by omega), h0 t.h 4 (by omega) (by omega) (by omega), e1, e2, e3, e4, e5, kd]
      · exact this.cC
      · exact this.cN
      · exact this.cS
      · exact this.cD
      · exact this.w3
      · exact this.w4
    · obtain ⟨a1, a2, a3, a4, a5, a6⟩ := R.own s h
      constructor <;> rw [h0 s.h _ (by omega) (by omega) (by omega)] <;> assumption
  · rcases live_mark R hf hs with rfl | ⟨h, hn'⟩
    · obtain ⟨b1, b2, b3, b4⟩ := R.bur t htl hg'
      refine ⟨kd.trans b1, ?_, ?_, b4⟩
      · rcases hv with rfl | rfl
        · rw [if_pos rfl] at hm'
          show nth _ (adr c t.h 6) = (f t.mr).left
          rw [hself, hm']
        · rw [if_neg (by decide)] at hm'
          show nth _ (adr c t.h 6) = (f t.mr).left
          rw [hne t.h 6 (by omega) (.inr (by omega)), hm']
          exact b2
      · rcases hv with rfl | rfl
        · rw [if_pos rfl] at hm'
          show nth _ (adr c t.h 7) = (f t.mr).leaves
          rw [hne t.h 7 (by omega) (.inr (by omega)), hm']
          exact b3
        · rw [if_neg (by decide)] at hm'
          show nth _ (adr c t.h 7) = (f t.mr).leaves
          rw [hself, hm']
    · rw [hne s.h 6 (by omega) (.inl hn'), hne s.h 7 (by omega) (.inl hn')]
      exact R.bur s h hg'
/-! ### Into the grave, and out of it -/
theorem RepW.graveAdd (R : RepW c zs D) (hm : c.May) (hz : zs.length = c.size) (hf : D.find r = some t) (hd : t.mr.dead = true) (h6 : nth zs (adr c t.h 6) = t.mr.left) (h7 : nth zs (adr c t.h 7) = t.mr.leaves) (hn : t.h ∉ D.ring) (hg : t.h + 1 ∉ D.grave) : RepW c (addZ c 1 t.h zs) { D with grave := D.grave ++ [t.h + 1] } := by
  have hw := hm.w
  obtain ⟨htl, hr⟩ := find_live hf
  have hlt := R.hlt htl
  have hnm : t.h ∉ D.grave.map (· - 1) := fun h => by
    obtain ⟨q, hq, e⟩ := List.mem_map.1 h
    obtain ⟨u, hu, e2⟩ := R.gv q hq
    have : t.h + 1 = q := by omega
    exact hg (this ▸ hq)
  have hA := R.grave.add hm hz (by omega : 1 < 2) hlt hnm
  have eg : (D.grave ++ [t.h + 1]).map (· - 1) = D.grave.map (· - 1) ++ [t.h] := by simp
  have hlast : nth zs 4 ≠ 0 → ∃ u, u ∈ D.live ∧ (nth zs 4 - 1).toNat = u.h := fun h0 => by
    have hr1 : nth zs 4 = lstI (D.grave.map (· - 1)) := R.grave.r1
    rw [hr1] at h0
    obtain ⟨y, hy, e⟩ := lstI_mem (D.grave.map (· - 1)) (fun e => h0 (by rw [e]; rfl))
    obtain ⟨q, hq, e1⟩ := List.mem_map.1 hy
    obtain ⟨u, hu, e2⟩ := R.gv q hq
    refine ⟨u, hu, ?_⟩
    rw [hr1, e]
    omega
  have out : ∀ i, i ≠ 3 → i ≠ 4 → i ≠ 5 → (∀ u, u ∈ D.live → i ≠ adr c u.h 5) → nth (addZ c 1 t.h zs) i = nth zs i := fun i a3 a4 a5 ho => addZ_out a3 a4 a5 (by rw [lnk_adr]; exact ho t htl) (fun h0 => by
    obtain ⟨u, hu, e⟩ := hlast h0
    rw [e, lnk_adr]
    exact ho u hu)
  have hne : ∀ b u, u < c.W → u ≠ 5 → nth (addZ c 1 t.h zs) (adr c b u) = nth zs (adr c b u) := fun b u hu h5 => out _ (by have := adr_24 c b u; omega) (by have := adr_24 c b u; omega) (by have := adr_24 c b u; omega) (fun s _ e => h5 (adr_inj hu (by omega) e).2)
  have hreg : ∀ r, r < 24 → r ≠ 3 → r ≠ 4 → r ≠ 5 → nth (addZ c 1 t.h zs) r = nth zs r := fun r hr a3 a4 a5 => out r a3 a4 a5 (fun s _ e => by have := adr_24 c s.h 5; omega)
  refine R.frame hm ⟨addZ_length _ _ _ _, fun i hi hne' => out i (by omega) (by omega) (by omega) (fun s hs => hne' s.ob (R.obMem hs) 5 (by omega) (by omega) (by omega)), fun o ho => by rw [hne o.h 0 (by omega) (by omega)]; exact ⟨(R.heap.obs o ho).tok, rfl⟩⟩ rfl rfl rfl rfl (fun s hs => ⟨s, hs, rfl, rfl, rfl, rfl⟩) (fun s hs => ?_)
    (R.ring.congr (fun j hj => hreg j (by omega) (by omega) (by omega) (by omega)) (fun b _ => hne b 0 (by omega) (by omega)) (fun b hb => ⟨hne b 6 (by omega) (by omega), hne b 7 (by omega) (by omega)⟩)) (by rw [eg]; exact hA) (by rw [hreg 6 (by omega) (by omega) (by omega) (by omega)]; exact R.r6) (fun j h1 h2 => by rw [hreg j (by omega) (by omega) (by omega) (by omega)]; exact R.reg j h1 h2) R.par (fun q hq => ?_) (fun s hs hg' => ?_)
  · obtain ⟨a1, a2, a3, a4, a5, a6⟩ := R.own s hs
    constructor <;> rw [hne s.h _ (by omega) (by omega)] <;> assumption
  · rcases List.mem_append.1 hq with hq | hq
    · exact R.gv q hq
    · exact ⟨t, htl, (List.mem_singleton.1 hq).symm⟩
  · rw [hne s.h 6 (by omega) (by omega), hne s.h 7 (by omega) (by omega)]
    rcases List.mem_append.1 hg' with h1 | h1
    · exact R.bur s hs h1
    · have e : s.h = t.h := by have := List.mem_singleton.1 h1; omega
      obtain rfl := R.same hs htl e
      exact ⟨hd, h6, h7, hn⟩
theorem RepW.graveTake (R : RepW c zs D) (hm : c.May) (hz : zs.length = c.size) {g : Nat} {rest : List Nat} (hg : D.grave = g :: rest) : RepW c (takeZ c 1 (g - 1) zs) { D with grave := rest } := by
  have hw := hm.w
  obtain ⟨t, htl, e⟩ := R.gv g (by rw [hg]; simp)
  have e' : g - 1 = t.h := by omega
  rw [e']
  have hC := R.grave
  rw [hg, List.map_cons, e'] at hC
  obtain ⟨hT, _⟩ := hC.take hm hz (by omega : 1 < 2)
  have out : ∀ i, i ≠ 3 → i ≠ 4 → i ≠ 5 → i ≠ adr c t.h 5 → nth (takeZ c 1 t.h zs) i = nth zs i := fun i a3 a4 a5 ho => takeZ_out a3 a4 a5 (by rw [lnk_adr]; exact ho)
  have hne : ∀ b u, u < c.W → u ≠ 5 → nth (takeZ c 1 t.h zs) (adr c b u) = nth zs (adr c b u) := fun b u hu h5 => out _ (by have := adr_24 c b u; omega) (by have := adr_24 c b u; omega) (by have := adr_24 c b u; omega) (fun e => h5 (adr_inj hu (by omega) e).2)
  have hreg : ∀ r, r < 24 → r ≠ 3 → r ≠ 4 → r ≠ 5 → nth (takeZ c 1 t.h zs) r = nth zs r := fun r hr a3 a4 a5 => out r a3 a4 a5 (fun e => by have := adr_24 c t.h 5; omega)
  refine R.frame hm ⟨takeZ_length _ _ _ _, fun i hi hne' => out i (by omega) (by omega) (by omega) (hne' t.ob (R.obMem htl) 5 (by omega) (by omega) (by omega)), fun o ho => by rw [hne o.h 0 (by omega) (by omega)]; exact ⟨(R.heap.obs o ho).tok, rfl⟩⟩ rfl rfl rfl rfl (fun s hs => ⟨s, hs, rfl, rfl, rfl, rfl⟩) (fun s hs => ?_)
    (R.ring.congr (fun j hj => hreg j (by omega) (by omega) (by omega) (by omega)) (fun b _ => hne b 0 (by omega) (by omega)) (fun b hb => ⟨hne b 6 (by omega) (by omega), hne b 7 (by omega) (by omega)⟩)) hT (by rw [hreg 6 (by omega) (by omega) (by omega) (by omega)]; exact R.r6) (fun j h1 h2 => by rw [hreg j (by omega) (by omega) (by omega) (by omega)]; exact R.reg j h1 h2) R.par (fun q hq => R.gv q (by rw [hg]; exact List.mem_cons_of_mem _ hq)) (fun s hs hg' => ?_)
  · obtain ⟨a1, a2, a3, a4, a5, a6⟩ := R.own s hs
    constructor <;> rw [hne s.h _ (by omega) (by omega)] <;> assumption
  · rw [hne s.h 6 (by omega) (by omega), hne s.h 7 (by omega) (by omega)]
    exact R.bur s hs (by rw [hg]; exact List.mem_cons_of_mem _ hg')
theorem RepW.setPend (R : RepW c zs D) (hm : c.May) (hz : zs.length = c.size) (x : Int) : RepW c (zs.set 6 x) { D with pending := x } := by
  have hs := hm.size
  have ha : ∀ b u, nth (zs.set 6 x) (adr c b u) = nth zs (adr c b u) := fun b u => nth_set_ne (fun e => by have := adr_24 c b u; omega) x
  have hr : ∀ j, j ≠ 6 → nth (zs.set 6 x) j = nth zs j := fun j hj => nth_set_ne (fun e => hj e.symm) x
  refine R.frame hm ⟨by simp, fun i hi hne => hr i (by omega), fun o ho' => by rw [ha]; exact ⟨(R.heap.obs o ho').tok, rfl⟩⟩ rfl rfl rfl rfl (fun t' ht' => ⟨t', ht', rfl, rfl, rfl, rfl⟩) (fun t' ht' => ?_) (R.ring.congr (fun j hj => hr j (by omega)) (fun b _ => ha b 0) (fun b _ => ⟨ha b 6, ha b 7⟩)) (R.grave.same (fun j h1 h2 => hr j (by omega)) (fun b _ => ha b 5)) (nth_set_eq (by rw [hz]; omega) x) (fun j h1 h2 => by rw [hr j (by omega)]; exact R.reg j h1 h2) R.par R.gv (fun t' ht' hg => by rw [ha, ha]; exact R.bur t' ht' hg)
  obtain ⟨a1, a2, a3, a4, a5, a6⟩ := R.own t' ht'
  constructor <;> rw [ha] <;> assumption
end
end Go.Proofs.YtljdbaddockfcaaGreat.Pk
