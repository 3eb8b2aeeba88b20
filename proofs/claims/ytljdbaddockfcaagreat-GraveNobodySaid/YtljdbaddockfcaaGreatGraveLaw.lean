/-
  Layer 14: objects are made; the chapter's example; a nil ground.
-/
import Derived.Test.YtljdbaddockfcaaGreatGraveStepEtc
import Derived.Test.YtljdbaddockfcaaGreatRefMkEtc
import Derived.Test.YtljdbaddockfcaaGreatGraveStepEtc
import Derived.Test.YtljdbaddockfcaaGreatPoolFn
import Derived.Test.YtljdbaddockfcaaGreatRingFn3
namespace Go.Proofs.YtljdbaddockfcaaGreat.Pk
open Go.RowKit
set_option linter.unusedVariables false
set_option linter.unusedSimpArgs false
set_option maxRecDepth 100000

theorem San.new (n : Nat) {w : Nat} (h : 16 ≤ w) : San (Wd.new n w) := ⟨h, by simp [Wd.live, Wd.new, liveL], by simp [Wd.new], fun g hg => absurd hg (by simp [Wd.new]), fun t ht => absurd ht (by simp [Wd.live, Wd.new, liveL]), fun t ht => absurd ht (by simp [Wd.live, Wd.new, liveL]), rfl⟩
theorem sumL_append {φ : Th → Nat} : ∀ (l k : List Th), sumL φ (l ++ k) = sumL φ l + sumL φ k
  | [], k => by simp [sumL, liveL]
  | u :: l, k => by rw [List.cons_append, sumL_cons, sumL_cons, sumL_append l k]; omega
theorem RepW.geo {c : Cf} {zs : List Int} {D : Wd} {t : Th} (R : RepW c zs D) (hm : c.May) (ht : t ∈ D.live) : Geo D.w t := by
  have hA := R.heap.obs t.ob (R.obMem ht)
  have hw := hm.w
  have hW := R.w
  have ef : t.ob.f = t.pt.length + t.dt.length := rfl
  have el : t.ob.lv.length = t.lv.length := by unfold Th.ob; simp
  refine ⟨fun h => ?_, fun h => ?_⟩
  · have := hA.small (by rw [ef]; rw [hW] at h; exact h) hm
    have h2 : t.lv.length = 0 := by rw [← el, this]; rfl
    exact List.length_eq_zero_iff.1 h2
  · have hb : ¬ t.ob.f ≤ c.W - 8 := by rw [ef]; rw [hW] at h; exact h
    have hl := hA.lvs
    obtain ⟨_, _, h3, _⟩ := leaves_big (W := c.W) (n := t.ob.f) (by omega) (by omega) (by omega) hA.size
    rw [← hl] at h3
    have h4 : t.ob.f ≤ t.ob.lv.length * (c.W - 1) := by
      have : ((t.ob.lv.length * (c.W - 1) : Nat) : Int) = (t.ob.lv.length : Int) * ((c.W : Int) - 1) := by rw [Int.natCast_mul]; congr 1; omega
      omega
    rw [el, ef] at h4
    refine ⟨fun e => ?_, by rw [hW]; exact h4⟩
    have h5 : t.lv.length = 0 := by rw [e]; rfl
    rw [h5, Nat.zero_mul] at h4
    omega
theorem San.made {c : Cf} {zs : List Int} {D : Wd} {b np nd : Nat} {ls cl : List Nat} (S : San D) (R : RepW c zs (D.made b ls cl np nd)) (hm : c.May) : San (D.made b ls cl np nd) := by
  have hlive := live_made (D := D) (b := b) (ls := ls) (cl := cl) (np := np) (nd := nd)
  have hg : (D.made b ls cl np nd).grave = D.grave := rfl
  have hmem : ∀ t, t ∈ D.live → t ∈ (D.made b ls cl np nd).live := fun t ht => by rw [hlive]; exact List.mem_append_left _ ht
  have hnew : (⟨b, ints ls, zer np, zer nd, false, Mrk.new⟩ : Th) ∈ (D.made b ls cl np nd).live := by rw [hlive]; simp
  refine ⟨S.w, R.nodup, S.gd, fun g hg => ?_, fun t ht => ?_, fun t ht hr => ?_, ?_⟩
  · obtain ⟨u, hu, e⟩ := S.gv g hg
    exact ⟨u, hmem u hu, e⟩
  · have hgeo := R.geo hm ht
    rw [hlive] at ht
    rcases List.mem_append.1 ht with h | h
    · have k := S.ok t h
      exact ⟨hgeo, k.iff_, k.dead, k.alive⟩
    · obtain rfl := List.mem_singleton.1 h
      refine ⟨hgeo, ⟨fun h => (by cases h), fun h => ?_⟩, fun h => (by cases h), fun _ j hj => ?_⟩
      · have := (R.bur _ hnew h).1
        exact this
      · have hj' : j < ls.length := by simpa [ints] using hj
        exact ⟨ls[j], by show (ints ls)[j]? = _; unfold ints; simp [hj']⟩
  · rw [hlive] at ht
    rcases List.mem_append.1 ht with h | h
    · exact S.ring t h hr
    · obtain rfl := List.mem_singleton.1 h
      rfl
  · have h1 := S.pend
    have h2 : sumL pendT (D.ts ++ [(⟨b, ints ls, zer np, zer nd, false, Mrk.new⟩ : Th)]) = sumL pendT D.ts := by
      rw [sumL_append, sumL_cons]
      simp [pendT, Mrk.new, sumL, liveL]
    show D.pending = (sumL pendT (D.ts ++ [_]) : Int)
    rw [h1, h2]
theorem San.mkD {c : Cf} {D : Wd} {x y : Int} (S : San D) {w wr : World} {p : Pl} (h : RSt w p c (D.mkD x y) wr) : San (D.mkD x y) := by
  obtain ⟨zs, m, hG, hR, hp, hB⟩ := h
  unfold Wd.mkD at hR ⊢
  split
  · rename_i h0
    rw [if_pos h0] at hR
    exact S.made hR hG.may
  · exact S
theorem poolLen (F : PoolFns) {c : Cf} {D : Wd} : Does c D 20 [] 24 D (.int .i64 (D.clean.length : Int)) := fun zs hz hr => ⟨zs, F.len c zs D.clean hz hr.heap.pl.ch, hr⟩

/-! ### The chapter's example -/
def gx1 : Wd := (Wd.new 2 16).mkD 2 0
def gx2 : Wd := gx1.inter 1
def gx3 : Wd := gx2.step
def gx4 : Wd := gx3.step
def gx5 : Wd := gx4.step
set_option maxHeartbeats 2000000 in
theorem begun14_any (w : World) : Calls Tryz.prog 9 #[] w fun e w' => e = .returned (.bool true) ∧ Below w.heap.size w w' := by
  go_enter Tryz.func9, Tryz.ntmps9
  go_wp2_with fail
  refine (openedRW16 poolFns 2 _ (by decide) (by decide)).mono ?_
  rintro e w0 ⟨p, q, lo, rfl, h, _, _, _, _⟩
  have H0 := Lib.hid h
  have HM := Lib.hid (make_does objFns (cfR 2) (Wd.new 2 16) 2 0 h)
  rw [show (Wd.new 2 16).mkR 2 0 = 1 by decide, show (Wd.new 2 16).mkE 2 0 = 0 by decide, show (Wd.new 2 16).mkD 2 0 = gx1 from rfl] at HM
  clear h
  go_wp2_with fail
  refine HM.out.mono ?_
  rintro e w1 ⟨rfl, h, _⟩
  have H1 := Lib.hid h
  have S1 : San gx1 := (San.new 2 (by decide)).mkD (x := 2) (y := 0) h
  have S2 : San gx2 := S1.inter 1
  have S3 : San gx3 := S2.step
  have S4 : San gx4 := S3.step
  have S5 : San gx5 := S4.step
  have HT1 := Lib.hid ((gd_inter (c := cfR 2) (D := gx1) (r := 1) (in64 1) (by decide) (by decide)).as (vb (show gx1.interB 1 = true by decide)) (show gx1.inter 1 = gx2 from rfl))
  have HT2 := Lib.hid ((gd_inter (c := cfR 2) (D := gx2) (r := 1) (in64 1) (by decide) (by decide)).as (vb (show gx2.interB 1 = false by decide)) (show gx2.inter 1 = gx2 from rfl))
  have HP2 := Lib.hid ((gd_Pending (c := cfR 2) (D := gx2)).as (vi (show gx2.pending = 1 by decide)) rfl)
  have HT3 := Lib.hid ((gd_Step (c := cfR 2) S2).as (vb (show (!gx2.grave.isEmpty) = true by decide)) (show gx2.step = gx3 from rfl))
  have HT4 := Lib.hid ((gd_Step (c := cfR 2) S3).as (vb (show (!gx3.grave.isEmpty) = true by decide)) (show gx3.step = gx4 from rfl))
  have HL4 := Lib.hid ((poolLen poolFns (c := cfR 2) (D := gx4)).as (vi (show (gx4.clean.length : Int) = 1 by decide)) rfl)
  have HT5 := Lib.hid ((gd_Step (c := cfR 2) S4).as (vb (show (!gx4.grave.isEmpty) = true by decide)) (show gx4.step = gx5 from rfl))
  have HL5 := Lib.hid ((poolLen poolFns (c := cfR 2) (D := gx5)).as (vi (show (gx5.clean.length : Int) = 2 by decide)) rfl)
  have HT6 := Lib.hid ((gd_Step (c := cfR 2) S5).as (vb (show (!gx5.grave.isEmpty) = false by decide)) (show gx5.step = gx5 from rfl))
  have HP6 := Lib.hid ((gd_Pending (c := cfR 2) (D := gx5)).as (vi (show gx5.pending = 0 by decide)) rfl)
  clear h S1 S2 S3 S4 S5
  go_wp2_with fail
  refine (H1.out.does HT1.out).mono ?_
  rintro e w2 ⟨rfl, h, _⟩
  have H2 := Lib.hid h
  clear h
  go_wp2_with fail
  refine (H2.out.does HT2.out).mono ?_
  rintro e w3 ⟨rfl, h, _⟩
  have H3 := Lib.hid h
  clear h
  go_wp2_with fail
  refine (H3.out.does HP2.out).mono ?_
  rintro e w4 ⟨rfl, h, _⟩
  have H4 := Lib.hid h
  clear h
  go_wp2_with fail
  refine (H4.out.does HT3.out).mono ?_
  rintro e w5 ⟨rfl, h, _⟩
  have H5 := Lib.hid h
  clear h
  go_wp2_with fail
  refine (H5.out.does HT4.out).mono ?_
  rintro e w6 ⟨rfl, h, _⟩
  have H6 := Lib.hid h
  clear h
  go_wp2_with fail
  refine (H6.out.does HL4.out).mono ?_
  rintro e w7 ⟨rfl, h, _⟩
  have H7 := Lib.hid h
  clear h
  go_wp2_with fail
  refine (H7.out.does HT5.out).mono ?_
  rintro e w8 ⟨rfl, h, _⟩
  have H8 := Lib.hid h
  clear h
  go_wp2_with fail
  refine (H8.out.does HL5.out).mono ?_
  rintro e w9 ⟨rfl, h, _⟩
  have H9 := Lib.hid h
  clear h
  go_wp2_with fail
  refine (H9.out.does HT6.out).mono ?_
  rintro e w10 ⟨rfl, h, _⟩
  have H10 := Lib.hid h
  clear h
  go_wp2_with fail
  refine (H10.out.does HP6.out).mono ?_
  rintro e w11 ⟨rfl, h, _⟩
  have H11 := Lib.hid h
  clear h
  go_wp2_with fail
  go_ret
  exact ⟨rfl, H11.out.below⟩

/-! ### Of a nil ground -/
theorem gn_bury (r : Int) (w : World) : Calls Tryz.prog 58 #[.pointer none, .int .i64 r] w fun e w' => e = .returned (.bool false) ∧ Below w.heap.size w w' := by
  go_enter Tryz.func58, Tryz.ntmps58
  go_wp2_with fail
  refine (tintNil.kill r _).mono ?_
  rintro e w1 ⟨rfl, hb⟩
  have HB := Lib.hid hb
  clear hb
  go_wp2_with fail
  go_ret
  exact ⟨rfl, HB.out⟩
theorem gn_Bury (r : Int) (w : World) : Calls Tryz.prog 11 #[.pointer none, .int .i64 r] w fun e w' => e = .returned (.bool false) ∧ Below w.heap.size w w' := by
  go_enter Tryz.func11, Tryz.ntmps11
  go_wp2_with fail
  refine (countNil.of_ r _).mono ?_
  rintro e w1 ⟨rfl, hb⟩
  have HB := Lib.hid hb
  clear hb
  go_wp2_with fail
  refine (gn_bury r _).mono ?_
  rintro e w2 ⟨rfl, hb⟩
  have HB2 := Lib.hid (below_step HB.out hb)
  clear hb
  go_wp2_with fail
  go_ret
  exact ⟨rfl, HB2.out⟩
theorem gn_step (w : World) : Calls Tryz.prog 59 #[.pointer none] w fun e w' => e = .returned (.tuple #[.bool false, .bool false]) ∧ w = w' := by
  go_enter Tryz.func59, Tryz.ntmps59
  go_wp2_with fail
  refine (cx_first_nil 1 _).mono ?_
  rintro e w1 ⟨rfl, rfl⟩
  go_wp2_with fail
  go_ret2
  exact ⟨rfl, rfl⟩
theorem gn_Step (w : World) : Calls Tryz.prog 12 #[.pointer none] w fun e w' => e = .returned (.bool false) ∧ w = w' := by
  go_enter Tryz.func12, Tryz.ntmps12
  go_wp2_with fail
  refine (gn_step _).mono ?_
  rintro e w1 ⟨rfl, rfl⟩
  go_wp2_with fail
  go_ret
  exact ⟨rfl, rfl⟩
theorem gn_Release (w : World) : Calls Tryz.prog 21 #[.pointer none] w fun e w' => e = .returned (.bool false) ∧ Below w.heap.size w w' := by
  have hf := cfield1 0 0 0 0
  go_enter Tryz.func21, Tryz.ntmps21
  go_wp2_with fail
  refine (gconf_nil _).mono ?_
  rintro e w1 ⟨rfl, hb⟩
  have HB := Lib.hid hb
  clear hb
  go_wp2_with fail
  refine wp_loop_rounds 1 ?_
  rw [rounds_succ]
  go_wp2_with fail
  go_ret
  exact ⟨rfl, HB.out⟩
theorem gn_Pending (w : World) : Calls Tryz.prog 19 #[.pointer none] w fun e w' => e = .returned (.int .i64 0) ∧ w = w' := by
  go_enter Tryz.func19, Tryz.ntmps19
  go_wp2_with fail
  refine (reg_nil 6 _).mono ?_
  rintro e w1 ⟨rfl, rfl⟩
  go_wp2_with fail
  go_ret
  exact ⟨rfl, rfl⟩
theorem gn_See (w : World) : Calls Tryz.prog 23 #[.pointer none] w fun e w' => e = .returned (.int .i64 0) ∧ w = w' := by
  go_enter Tryz.func23, Tryz.ntmps23
  go_wp2_with fail
  refine (seereg_nil 6 _).mono ?_
  rintro e w1 ⟨rfl, rfl⟩
  go_wp2_with fail
  go_ret
  exact ⟨rfl, rfl⟩
theorem gn_List (w : World) : Calls Tryz.prog 22 #[.pointer none] w fun e w' => e = .returned (.slice none 0 0) ∧ w = w' := by
  go_enter Tryz.func22, Tryz.ntmps22
  go_wp2_with fail
  refine (cx_list_nil 1 _).mono ?_
  rintro e w1 ⟨rfl, rfl⟩
  go_wp2_with fail
  refine wp_loop_rounds 1 ?_
  rw [rounds_succ]
  go_wp2_with fail
  go_ret
  exact ⟨rfl, rfl⟩
set_option maxHeartbeats 2000000 in
theorem graveNobody_any (r : Int) (w : World) : Calls Tryz.prog 4 #[.int .i64 r] w fun e w' => e = .returned (.bool true) ∧ Below w.heap.size w w' := by
  go_enter Tryz.func4, Tryz.ntmps4
  go_wp2_with fail
  refine (gn_Bury r _).mono ?_
  rintro e w1 ⟨rfl, hb⟩
  have HB1 := Lib.hid hb
  clear hb
  go_wp2_with fail
  refine (gn_Step _).mono ?_
  rintro e w2 ⟨rfl, rfl⟩
  go_wp2_with fail
  refine (gn_Release _).mono ?_
  rintro e w3 ⟨rfl, hb⟩
  have HB3 := Lib.hid (below_step HB1.out hb)
  clear hb
  go_wp2_with fail
  refine (gn_Pending _).mono ?_
  rintro e w4 ⟨rfl, rfl⟩
  go_wp2_with fail
  refine (gn_List _).mono ?_
  rintro e w5 ⟨rfl, rfl⟩
  go_wp2_with fail
  refine (gn_See _).mono ?_
  rintro e w6 ⟨rfl, rfl⟩
  go_wp2_with fail
  refine (begun14_any _).mono ?_
  rintro e w7 ⟨rfl, hb⟩
  have HB7 := Lib.hid (below_step HB3.out hb)
  clear hb
  go_wp2_with fail
  go_ret
  exact ⟨rfl, HB7.out⟩
end Go.Proofs.YtljdbaddockfcaaGreat.Pk
