/-
  What the functions of package chain return: Push, Add, Take.
-/
import Derived.Test.YticlidpdmonijaaChainFn
namespace Go.Proofs.Yticlidpdmonijaa.Pk
open Go.RowKit
set_option linter.unusedVariables false
set_option linter.unusedSimpArgs false

theorem adr_lnk (c : Cf) (b : Nat) : adr c b 5 = lnk c b := rfl
section
variable {c : Cf} {zs : List Int} {k b : Nat}
theorem push_words0 (hm : c.May) (hz : zs.length = c.size) (hk : k < 2) (hb : b < c.N) (h0 : nth zs (3 * k) = 0) :
    ((((zs.set (lnk c b) 0).set (3 * k) ((b : Int) + 1)).set (3 * k + 1) ((b : Int) + 1)).set (3 * k + 2) (nth zs (3 * k + 2) + 1)) = pushZ c k b zs := by
  have hs := hm.size
  have hl := lnk_lt hm hb
  refine eq_ofN (by simp) (fun i hi => ?_)
  unfold pushN
  rw [nth_set (by simp; omega), nth_set (by simp; omega), nth_set (by simp; omega), nth_set (by omega), h0, if_pos rfl]
  by_cases e2 : i = 3 * k + 2
  · rw [if_pos e2, if_pos e2]
  rw [if_neg e2, if_neg e2]
  by_cases e1 : i = 3 * k + 1
  · rw [if_pos e1, if_neg (by omega), if_pos e1]
  rw [if_neg e1]
  by_cases e0 : i = 3 * k
  · rw [if_pos e0, if_pos e0]
  rw [if_neg e0, if_neg e0, if_neg e1]
theorem push_words1 (hm : c.May) (hz : zs.length = c.size) (hk : k < 2) (hb : b < c.N) (h0 : nth zs (3 * k) ≠ 0) :
    (((zs.set (lnk c b) (nth zs (3 * k))).set (3 * k) ((b : Int) + 1)).set (3 * k + 2) (nth zs (3 * k + 2) + 1)) = pushZ c k b zs := by
  have hs := hm.size
  have hl := lnk_lt hm hb
  have hr : ¬ 3 * k + 1 = lnk c b := lnk_reg (by omega)
  refine eq_ofN (by simp) (fun i hi => ?_)
  unfold pushN
  rw [nth_set (by simp; omega), nth_set (by simp; omega), nth_set (by omega), if_neg h0]
  by_cases e2 : i = 3 * k + 2
  · rw [if_pos e2, if_pos e2]
  rw [if_neg e2, if_neg e2]
  by_cases e0 : i = 3 * k
  · rw [if_pos e0, if_pos e0]
  rw [if_neg e0, if_neg e0]
  by_cases e1 : i = 3 * k + 1
  · rw [if_pos e1, e1, if_neg hr]
  rw [if_neg e1]
theorem add_words0 (hm : c.May) (hz : zs.length = c.size) (hk : k < 2) (hb : b < c.N) (h0 : nth zs (3 * k + 1) = 0) :
    ((((zs.set (lnk c b) 0).set (3 * k) ((b : Int) + 1)).set (3 * k + 1) ((b : Int) + 1)).set (3 * k + 2) (nth zs (3 * k + 2) + 1)) = addZ c k b zs := by
  have hs := hm.size
  have hl := lnk_lt hm hb
  refine eq_ofN (by simp) (fun i hi => ?_)
  unfold addN
  rw [nth_set (by simp; omega), nth_set (by simp; omega), nth_set (by simp; omega), nth_set (by omega), h0, if_pos rfl]
  by_cases e2 : i = 3 * k + 2
  · rw [if_pos e2, if_pos e2]
  rw [if_neg e2, if_neg e2]
  by_cases e1 : i = 3 * k + 1
  · rw [if_pos e1, if_neg (by omega), if_pos e1]
  rw [if_neg e1]
  by_cases e0 : i = 3 * k
  · rw [if_pos e0, if_pos e0]
  rw [if_neg e0, if_neg e0, if_neg e1]
  by_cases e : i = lnk c b
  · rw [if_pos e, if_pos e]
  rw [if_neg e, if_neg e, if_neg (by simp)]
theorem add_words1 {x : Nat} (hm : c.May) (hz : zs.length = c.size) (hk : k < 2) (hb : b < c.N) (hx : x < c.N) (hxb : x ≠ b) (h0 : nth zs (3 * k + 1) = (x : Int) + 1) :
    ((((zs.set (lnk c b) 0).set (lnk c x) ((b : Int) + 1)).set (3 * k + 1) ((b : Int) + 1)).set (3 * k + 2) (nth zs (3 * k + 2) + 1)) = addZ c k b zs := by
  have hs := hm.size
  have hl := lnk_lt hm hb
  have hlx := lnk_lt hm hx
  have hr : ¬ 3 * k = lnk c b := lnk_reg (by omega)
  have hr' : ¬ 3 * k = lnk c x := lnk_reg (by omega)
  have hbx : ¬ lnk c b = lnk c x := fun e => hxb (lnk_inj hm e).symm
  refine eq_ofN (by simp) (fun i hi => ?_)
  unfold addN
  rw [nth_set (by simp; omega), nth_set (by simp; omega), nth_set (by simp; omega), nth_set (by omega), h0, if_neg (show ¬ ((x : Int) + 1 = 0) by omega), show ((x : Int) + 1 - 1).toNat = x by omega]
  by_cases e2 : i = 3 * k + 2
  · rw [if_pos e2, if_pos e2]
  rw [if_neg e2, if_neg e2]
  by_cases e1 : i = 3 * k + 1
  · rw [if_pos e1, if_neg (by omega), if_pos e1]
  rw [if_neg e1]
  by_cases e0 : i = 3 * k
  · rw [if_pos e0, e0, if_neg hr', if_neg hr]
  rw [if_neg e0, if_neg e1]
  by_cases e : i = lnk c b
  · rw [if_pos e, e, if_neg hbx, if_pos rfl]
  rw [if_neg e, if_neg e]
  by_cases e' : i = lnk c x
  · rw [if_pos e', if_pos ⟨by omega, e'⟩]
  rw [if_neg e', if_neg (fun h => e' h.2)]
theorem take_words0 (hm : c.May) (hz : zs.length = c.size) (hk : k < 2) (hb : b < c.N) (h0 : nth zs (lnk c b) = 0) :
    ((((zs.set (3 * k) 0).set (3 * k + 1) 0).set (lnk c b) 0).set (3 * k + 2) (nth zs (3 * k + 2) - 1)) = takeZ c k b zs := by
  have hs := hm.size
  have hl := lnk_lt hm hb
  have hr1 : ¬ 3 * k + 1 = lnk c b := lnk_reg (by omega)
  have hr0 : ¬ 3 * k = lnk c b := lnk_reg (by omega)
  refine eq_ofN (by simp) (fun i hi => ?_)
  unfold takeN
  rw [nth_set (by simp; omega), nth_set (by simp; omega), nth_set (by simp; omega), nth_set (by omega), h0, if_pos rfl]
  by_cases e2 : i = 3 * k + 2
  · rw [if_pos e2, if_pos e2]
  rw [if_neg e2, if_neg e2]
  by_cases e : i = lnk c b
  · rw [if_pos e, if_neg (by omega), if_neg (by omega), if_pos e]
  rw [if_neg e, if_neg e]
  by_cases e1 : i = 3 * k + 1
  · rw [if_pos e1, if_neg (by omega), if_pos e1]
  rw [if_neg e1, if_neg e1]
theorem take_words1 (hm : c.May) (hz : zs.length = c.size) (hk : k < 2) (hb : b < c.N) (h0 : nth zs (lnk c b) ≠ 0) :
    (((zs.set (3 * k) (nth zs (lnk c b))).set (lnk c b) 0).set (3 * k + 2) (nth zs (3 * k + 2) - 1)) = takeZ c k b zs := by
  have hs := hm.size
  have hl := lnk_lt hm hb
  have hr1 : ¬ 3 * k + 1 = lnk c b := lnk_reg (by omega)
  have hr0 : ¬ 3 * k = lnk c b := lnk_reg (by omega)
  refine eq_ofN (by simp) (fun i hi => ?_)
  unfold takeN
  rw [nth_set (by simp; omega), nth_set (by simp; omega), nth_set (by omega), if_neg h0]
  by_cases e2 : i = 3 * k + 2
  · rw [if_pos e2, if_pos e2]
  rw [if_neg e2, if_neg e2]
  by_cases e : i = lnk c b
  · rw [if_pos e, if_neg (by omega), if_neg (by omega), if_pos e]
  rw [if_neg e, if_neg e]
  by_cases e1 : i = 3 * k + 1
  · rw [e1, if_neg (by omega), if_neg (by omega), if_pos rfl]
  rw [if_neg e1]
end

theorem ch_push1 (p : Pl) (c : Cf) (s : St) (q r : Nat) (x y : Int) (w : World) (hG : G w p c s) (hq : w.cell? ⟨q, 0, none⟩ = some (.pointer (some ⟨p.a, 0, none⟩))) (hr : r < 20) (hx : x = (r : Int)) (hy : nth s.zs r = y) :
    Calls Try.prog 36 #[.int .i64 x, .pointer (some ⟨q, 0, none⟩)] w (GP w p c s.got (.tuple #[.int .i64 0, .int .i64 y])) := by
  have HG := Lib.hid hG
  subst hx
  have e1 : IntKind.i64.wrap ((r : Int) + 0) = (r : Int) := by rw [Int.add_zero]; exact IntWalk.i64_in _ (by omega)
  have HY := Lib.hid hy
  clear hG hy
  go_enter Try.func36, Try.ntmps36
  go_wp2_with fail
  refine (regR p c s r _ _ _ HG.out (by omega) (by first | rfl | exact e1) HY.out).mono ?_
  rintro e w1 ⟨rfl, hG1, hT1⟩
  have HG1 := Lib.hid hG1
  have HT1 := Lib.hid hT1
  clear hG1 hT1
  go_wp2_with fail
  go_ret2
  exact ⟨rfl, HG1.out, HT1.out⟩
theorem ch_add1 (p : Pl) (c : Cf) (s : St) (q r : Nat) (x y : Int) (w : World) (hG : G w p c s) (hq : w.cell? ⟨q, 0, none⟩ = some (.pointer (some ⟨p.a, 0, none⟩))) (hr : r < 20) (hx : x = (r : Int)) (hy : nth s.zs (r + 1) = y) :
    Calls Try.prog 34 #[.int .i64 x, .pointer (some ⟨q, 0, none⟩)] w (GP w p c s.got (.tuple #[.int .i64 y, .int .i64 0])) := by
  have HG := Lib.hid hG
  subst hx
  have e1 : IntKind.i64.wrap ((r : Int) + 1) = ((r + 1 : Nat) : Int) := by rw [show (r : Int) + 1 = ((r + 1 : Nat) : Int) by omega]; exact IntWalk.i64_in _ (by omega)
  have HY := Lib.hid hy
  clear hG hy
  go_enter Try.func34, Try.ntmps34
  go_wp2_with fail
  refine (regR p c s (r + 1) _ _ _ HG.out (by omega) (by first | rfl | exact e1) HY.out).mono ?_
  rintro e w1 ⟨rfl, hG1, hT1⟩
  have HG1 := Lib.hid hG1
  have HT1 := Lib.hid hT1
  clear hG1 hT1
  go_wp2_with fail
  go_ret2
  exact ⟨rfl, HG1.out, HT1.out⟩

theorem regs_wraps {k : Nat} (hk : k < 2) : IntKind.i64.wrap (((3 * k : Nat) : Int) + 0) = ((3 * k : Nat) : Int) ∧ IntKind.i64.wrap (((3 * k : Nat) : Int) + 1) = ((3 * k + 1 : Nat) : Int) ∧ IntKind.i64.wrap (((3 * k : Nat) : Int) + 2) = ((3 * k + 2 : Nat) : Int) := by
  refine ⟨?_, ?_, ?_⟩
  · rw [Int.add_zero]; exact IntWalk.i64_in _ (by omega)
  · rw [show ((3 * k : Nat) : Int) + 1 = ((3 * k + 1 : Nat) : Int) by omega]; exact IntWalk.i64_in _ (by omega)
  · rw [show ((3 * k : Nat) : Int) + 2 = ((3 * k + 2 : Nat) : Int) by omega]; exact IntWalk.i64_in _ (by omega)


theorem Grd.to {tg ts e : TypeId} {w : World} {p : Pl} {c : Cf} {s : St} {zs : List Int} {m : Nat} (h : Grd tg ts e w p c s) (hz : s.zs = zs) (hm : s.m = m) : Grd tg ts e w p c ⟨zs, m⟩ := by subst hz hm; exact h
/-- The box of a closure. -/
abbrev Box (w : World) (q : Nat) (p : Pl) : Prop := Blk w q #[.pointer (some ⟨p.a, 0, none⟩)] 25

set_option maxHeartbeats 1000000 in
theorem ch_put_push (p : Pl) (c : Cf) (s : St) (k b q : Nat) (l : List Nat) (w : World) (hG : G w p c s) (hC : ChainAt c s.zs k l) (hk : k < 2) (hb : b < c.N) (HQ : Hid (Box w q p)) (hqo : ¬ inG p q) :
    Calls Try.prog 33 #[.pointer (some ⟨p.a, 0, none⟩), .int .i64 (k : Int), .int .i64 (b : Int), .func (.func 36) #[] #[.pointer (some ⟨q, 0, none⟩)]] w (ChPost w p c s (pushZ c k b s.zs) (.bool true)) := by
  have HG := Lib.hid hG
  have hm := hG.may
  have hz := hG.len
  have hN := hm.n
  have hW := hm.w
  have hlk := nodup_len hC.nd hC.lt
  have r0 : nth s.zs (3 * k) = fstI l := hC.r0
  obtain ⟨n, hnl⟩ : ∃ n : Nat, n = l.length := ⟨_, rfl⟩
  have hnN : n ≤ c.N := by rw [hnl]; exact hlk
  have r2 : nth s.zs (3 * k + 2) = (n : Int) := by rw [hnl]; exact hC.r2
  have HR := Lib.hid (ch_regs p k w hk)
  obtain ⟨e0, e1, e2⟩ := regs_wraps hk
  have ew1 : IntKind.i64.wrap ((b : Int) + 1) = (b : Int) + 1 := IntWalk.i64_in _ (by omega)
  have ew3 : IntKind.i64.wrap ((n : Int) + 1) = (n : Int) + 1 := IntWalk.i64_in _ (by omega)
  have HB := Lib.hid (bel_mk hb)
  have R0 := Lib.hid r0
  have H5 : Hid (5 < c.W) := Lib.hid (by omega)
  have HQo := Lib.hid hqo
  cases l with
  | nil =>
    have ew2 : IntKind.u32.wrap 0 = 0 := IntWalk.u32_in _ (by omega)
    have HE := Lib.hid (push_words0 hm hz hk hb r0)
    rw [r2] at HE
    have R2 : Hid (nth (((s.zs.set (lnk c b) 0).set (3 * k) ((b : Int) + 1)).set (3 * k + 1) ((b : Int) + 1)) (3 * k + 2) = (n : Int)) := Lib.hid (by
      rw [nth_set_ne (by omega), nth_set_ne (by omega), nth_set_ne (lnk_reg' (by omega))]; exact r2)
    clear hG hC hz r0 r2 hm hqo hnl
    go_enter Try.func33, Try.ntmps33
    have HT0 : Hid (Touch (inG p) w w) := Lib.hid (Touch.refl _ _)
    go_wp2_with fail
    refine (HR.out).mono ?_
    rintro e w0 ⟨rfl, rfl⟩
    go_wp2_with fail
    refine (ch_has p c s _ _ HG.out).mono ?_
    rw [HB.out]
    rintro e w1 ⟨rfl, hb⟩
    have HG1 := Lib.hid (HG.out.later hb)
    have HT1 : Hid (Touch (inG p) _ w1) := Lib.hid (HT0.out.trans (Touch.of_below hb))
    have HQ1 := Lib.hid (HQ.out.later hb)
    clear hb
    go_wp2_with fail
    refine (ch_push1 p c s q (3 * k) _ 0 _ HG1.out (HQ1.out.cell 0 rfl) (by omega) rfl R0.out).mono ?_
    rintro e w2 ⟨rfl, hG, hT⟩
    have HG2 := Lib.hid hG
    have HT2 : Hid (Touch (inG p) _ w2) := Lib.hid (HT1.out.trans hT)
    have HQ2 := Lib.hid (HQ1.out.touch hT HQo.out)
    clear hG hT
    go_wp2_with fail
    refine (setwordW p c s.got b 5 _ _ 0 _ HG2.out hb H5.out rfl rfl (by omega) (by omega)).mono ?_
    rintro e w3 ⟨rfl, hG, hT⟩
    have HG3 := Lib.hid hG
    have HT3 : Hid (Touch (inG p) _ w3) := Lib.hid (HT2.out.trans hT)
    have HQ3 := Lib.hid (HQ2.out.touch hT HQo.out)
    clear hG hT
    go_wp2_with fail
    refine (setregR p c _ (3 * k) _ _ _ HG3.out (by omega) (by first | rfl | exact e0) (by omega) (by omega)).mono ?_
    rintro e w4 ⟨rfl, hG, hT⟩
    have HG4 := Lib.hid hG
    have HT4 : Hid (Touch (inG p) _ w4) := Lib.hid (HT3.out.trans hT)
    have HQ4 := Lib.hid (HQ3.out.touch hT HQo.out)
    clear hG hT
    go_wp2_with fail
    refine (setregR p c _ (3 * k + 1) _ _ _ HG4.out (by omega) (by first | rfl | exact e1) (by omega) (by omega)).mono ?_
    rintro e w5 ⟨rfl, hG, hT⟩
    have HG5 := Lib.hid hG
    have HT5 : Hid (Touch (inG p) _ w5) := Lib.hid (HT4.out.trans hT)
    have HQ5 := Lib.hid (HQ4.out.touch hT HQo.out)
    clear hG hT
    go_wp2_with fail
    refine (regR p c _ (3 * k + 2) _ _ _ HG5.out (by omega) (by first | rfl | exact e2) R2.out).mono ?_
    rintro e w6 ⟨rfl, hG, hT⟩
    have HG6 := Lib.hid hG
    have HT6 : Hid (Touch (inG p) _ w6) := Lib.hid (HT5.out.trans hT)
    have HQ6 := Lib.hid (HQ5.out.touch hT HQo.out)
    clear hG hT
    go_wp2_with fail
    refine (setregR p c _ (3 * k + 2) _ _ _ HG6.out (by omega) (by first | rfl | exact e2) (by omega) (by omega)).mono ?_
    rintro e w7 ⟨rfl, hG, hT⟩
    have HG7 := Lib.hid hG
    have HT7 : Hid (Touch (inG p) _ w7) := Lib.hid (HT6.out.trans hT)
    have HQ7 := Lib.hid (HQ6.out.touch hT HQo.out)
    clear hG hT
    go_wp2_with fail
    go_ret
    exact ⟨s.m + 6, rfl, HG7.out.to HE.out rfl, by omega, by omega, HT7.out⟩
  | cons a t =>
    have ha := hC.lt a (by simp)
    have r0' : nth s.zs (3 * k) = (a : Int) + 1 := r0
    have hbn : ((a : Int) + 1 == 0) = false := bne_of' (by omega)
    have ew2 : IntKind.u32.wrap ((a : Int) + 1) = (a : Int) + 1 := IntWalk.u32_in _ (by omega)
    have HE := Lib.hid (push_words1 hm hz hk hb (by rw [r0']; omega))
    rw [r2, r0'] at HE
    have R2 : Hid (nth ((s.zs.set (lnk c b) ((a : Int) + 1)).set (3 * k) ((b : Int) + 1)) (3 * k + 2) = (n : Int)) := Lib.hid (by
      rw [nth_set_ne (by omega), nth_set_ne (lnk_reg' (by omega))]; exact r2)
    clear hG hC hz r0 r0' r2 hm hqo hnl
    go_enter Try.func33, Try.ntmps33
    have HT0 : Hid (Touch (inG p) w w) := Lib.hid (Touch.refl _ _)
    go_wp2_with fail
    refine (HR.out).mono ?_
    rintro e w0 ⟨rfl, rfl⟩
    go_wp2_with fail
    refine (ch_has p c s _ _ HG.out).mono ?_
    rw [HB.out]
    rintro e w1 ⟨rfl, hb⟩
    have HG1 := Lib.hid (HG.out.later hb)
    have HT1 : Hid (Touch (inG p) _ w1) := Lib.hid (HT0.out.trans (Touch.of_below hb))
    have HQ1 := Lib.hid (HQ.out.later hb)
    clear hb
    go_wp2_with fail
    refine (ch_push1 p c s q (3 * k) _ ((a : Int) + 1) _ HG1.out (HQ1.out.cell 0 rfl) (by omega) rfl R0.out).mono ?_
    rintro e w2 ⟨rfl, hG, hT⟩
    have HG2 := Lib.hid hG
    have HT2 : Hid (Touch (inG p) _ w2) := Lib.hid (HT1.out.trans hT)
    have HQ2 := Lib.hid (HQ1.out.touch hT HQo.out)
    clear hG hT
    go_wp2_with fail
    refine (setwordW p c s.got b 5 _ _ ((a : Int) + 1) _ HG2.out hb H5.out rfl rfl (by omega) (by omega)).mono ?_
    rintro e w3 ⟨rfl, hG, hT⟩
    have HG3 := Lib.hid hG
    have HT3 : Hid (Touch (inG p) _ w3) := Lib.hid (HT2.out.trans hT)
    have HQ3 := Lib.hid (HQ2.out.touch hT HQo.out)
    clear hG hT
    go_wp2_with fail
    refine (setregR p c _ (3 * k) _ _ _ HG3.out (by omega) (by first | rfl | exact e0) (by omega) (by omega)).mono ?_
    rintro e w4 ⟨rfl, hG, hT⟩
    have HG4 := Lib.hid hG
    have HT4 : Hid (Touch (inG p) _ w4) := Lib.hid (HT3.out.trans hT)
    have HQ4 := Lib.hid (HQ3.out.touch hT HQo.out)
    clear hG hT
    go_wp2_with fail
    refine (regR p c _ (3 * k + 2) _ _ _ HG4.out (by omega) (by first | rfl | exact e2) R2.out).mono ?_
    rintro e w5 ⟨rfl, hG, hT⟩
    have HG5 := Lib.hid hG
    have HT5 : Hid (Touch (inG p) _ w5) := Lib.hid (HT4.out.trans hT)
    have HQ5 := Lib.hid (HQ4.out.touch hT HQo.out)
    clear hG hT
    go_wp2_with fail
    refine (setregR p c _ (3 * k + 2) _ _ _ HG5.out (by omega) (by first | rfl | exact e2) (by omega) (by omega)).mono ?_
    rintro e w6 ⟨rfl, hG, hT⟩
    have HG6 := Lib.hid hG
    have HT6 : Hid (Touch (inG p) _ w6) := Lib.hid (HT5.out.trans hT)
    have HQ6 := Lib.hid (HQ5.out.touch hT HQo.out)
    clear hG hT
    go_wp2_with fail
    go_ret
    exact ⟨s.m + 5, rfl, HG6.out.to HE.out rfl, by omega, by omega, HT6.out⟩

set_option maxHeartbeats 1000000 in
theorem ch_put_add (p : Pl) (c : Cf) (s : St) (k b q : Nat) (l : List Nat) (w : World) (hG : G w p c s) (hC : ChainAt c s.zs k l) (hk : k < 2) (hb : b < c.N) (hn : b ∉ l) (HQ : Hid (Box w q p)) (hqo : ¬ inG p q) :
    Calls Try.prog 33 #[.pointer (some ⟨p.a, 0, none⟩), .int .i64 (k : Int), .int .i64 (b : Int), .func (.func 34) #[] #[.pointer (some ⟨q, 0, none⟩)]] w (ChPost w p c s (addZ c k b s.zs) (.bool true)) := by
  have HG := Lib.hid hG
  have hm := hG.may
  have hz := hG.len
  have hN := hm.n
  have hW := hm.w
  have hlk := nodup_len hC.nd hC.lt
  have r1 : nth s.zs (3 * k + 1) = lstI l := hC.r1
  obtain ⟨n, hnl⟩ : ∃ n : Nat, n = l.length := ⟨_, rfl⟩
  have hnN : n ≤ c.N := by rw [hnl]; exact hlk
  have r2 : nth s.zs (3 * k + 2) = (n : Int) := by rw [hnl]; exact hC.r2
  have HR := Lib.hid (ch_regs p k w hk)
  obtain ⟨e0, e1, e2⟩ := regs_wraps hk
  have ew1 : IntKind.i64.wrap ((b : Int) + 1) = (b : Int) + 1 := IntWalk.i64_in _ (by omega)
  have ew3 : IntKind.i64.wrap ((n : Int) + 1) = (n : Int) + 1 := IntWalk.i64_in _ (by omega)
  have ew2 : IntKind.u32.wrap 0 = 0 := IntWalk.u32_in _ (by omega)
  have HB := Lib.hid (bel_mk hb)
  have H5 : Hid (5 < c.W) := Lib.hid (by omega)
  have HQo := Lib.hid hqo
  by_cases hl : l = []
  · subst hl
    have r1' : nth s.zs (3 * k + 1) = 0 := r1
    have R1 := Lib.hid r1'
    have HE := Lib.hid (add_words0 hm hz hk hb r1')
    rw [r2] at HE
    have R2 : Hid (nth (((s.zs.set (lnk c b) 0).set (3 * k) ((b : Int) + 1)).set (3 * k + 1) ((b : Int) + 1)) (3 * k + 2) = (n : Int)) := Lib.hid (by
      rw [nth_set_ne (by omega), nth_set_ne (by omega), nth_set_ne (lnk_reg' (by omega))]; exact r2)
    clear hG hC hz r1 r1' r2 hm hqo hnl
    go_enter Try.func33, Try.ntmps33
    have HT0 : Hid (Touch (inG p) w w) := Lib.hid (Touch.refl _ _)
    go_wp2_with fail
    refine (HR.out).mono ?_
    rintro e w0 ⟨rfl, rfl⟩
    go_wp2_with fail
    refine (ch_has p c s _ _ HG.out).mono ?_
    rw [HB.out]
    rintro e w1 ⟨rfl, hb⟩
    have HG1 := Lib.hid (HG.out.later hb)
    have HT1 : Hid (Touch (inG p) _ w1) := Lib.hid (HT0.out.trans (Touch.of_below hb))
    have HQ1 := Lib.hid (HQ.out.later hb)
    clear hb
    go_wp2_with fail
    refine (ch_add1 p c s q (3 * k) _ 0 _ HG1.out (HQ1.out.cell 0 rfl) (by omega) rfl R1.out).mono ?_
    rintro e w2 ⟨rfl, hG, hT⟩
    have HG2 := Lib.hid hG
    have HT2 : Hid (Touch (inG p) _ w2) := Lib.hid (HT1.out.trans hT)
    have HQ2 := Lib.hid (HQ1.out.touch hT HQo.out)
    clear hG hT
    go_wp2_with fail
    refine (setwordW p c s.got b 5 _ _ 0 _ HG2.out hb H5.out rfl rfl (by omega) (by omega)).mono ?_
    rintro e w3 ⟨rfl, hG, hT⟩
    have HG3 := Lib.hid hG
    have HT3 : Hid (Touch (inG p) _ w3) := Lib.hid (HT2.out.trans hT)
    have HQ3 := Lib.hid (HQ2.out.touch hT HQo.out)
    clear hG hT
    go_wp2_with fail
    refine (setregR p c _ (3 * k) _ _ _ HG3.out (by omega) (by first | rfl | exact e0) (by omega) (by omega)).mono ?_
    rintro e w4 ⟨rfl, hG, hT⟩
    have HG4 := Lib.hid hG
    have HT4 : Hid (Touch (inG p) _ w4) := Lib.hid (HT3.out.trans hT)
    have HQ4 := Lib.hid (HQ3.out.touch hT HQo.out)
    clear hG hT
    go_wp2_with fail
    refine (setregR p c _ (3 * k + 1) _ _ _ HG4.out (by omega) (by first | rfl | exact e1) (by omega) (by omega)).mono ?_
    rintro e w5 ⟨rfl, hG, hT⟩
    have HG5 := Lib.hid hG
    have HT5 : Hid (Touch (inG p) _ w5) := Lib.hid (HT4.out.trans hT)
    have HQ5 := Lib.hid (HQ4.out.touch hT HQo.out)
    clear hG hT
    go_wp2_with fail
    refine (regR p c _ (3 * k + 2) _ _ _ HG5.out (by omega) (by first | rfl | exact e2) R2.out).mono ?_
    rintro e w6 ⟨rfl, hG, hT⟩
    have HG6 := Lib.hid hG
    have HT6 : Hid (Touch (inG p) _ w6) := Lib.hid (HT5.out.trans hT)
    have HQ6 := Lib.hid (HQ5.out.touch hT HQo.out)
    clear hG hT
    go_wp2_with fail
    refine (setregR p c _ (3 * k + 2) _ _ _ HG6.out (by omega) (by first | rfl | exact e2) (by omega) (by omega)).mono ?_
    rintro e w7 ⟨rfl, hG, hT⟩
    have HG7 := Lib.hid hG
    have HT7 : Hid (Touch (inG p) _ w7) := Lib.hid (HT6.out.trans hT)
    have HQ7 := Lib.hid (HQ6.out.touch hT HQo.out)
    clear hG hT
    go_wp2_with fail
    go_ret
    exact ⟨s.m + 6, rfl, HG7.out.to HE.out rfl, by omega, by omega, HT7.out⟩
  · obtain ⟨a, hal, hae⟩ := lstI_mem l hl
    have ha := hC.lt a hal
    have r1' : nth s.zs (3 * k + 1) = (a : Int) + 1 := r1.trans hae
    have R1 := Lib.hid r1'
    have hbn : ((a : Int) + 1 == 0) = false := bne_of' (by omega)
    have ew4 : IntKind.u32.wrap ((b : Int) + 1) = (b : Int) + 1 := IntWalk.u32_in _ (by omega)
    have ew5 : IntKind.i64.wrap ((a : Int) + 1 - 1) = (a : Int) := by rw [Int.add_sub_cancel]; exact IntWalk.i64_in _ (by omega)
    have HE := Lib.hid (add_words1 hm hz hk hb ha (fun e => hn (by rw [← e]; exact hal)) r1')
    rw [r2] at HE
    have R2 : Hid (nth (((s.zs.set (lnk c b) 0).set (lnk c a) ((b : Int) + 1)).set (3 * k + 1) ((b : Int) + 1)) (3 * k + 2) = (n : Int)) := Lib.hid (by
      rw [nth_set_ne (by omega), nth_set_ne (lnk_reg' (by omega)), nth_set_ne (lnk_reg' (by omega))]; exact r2)
    clear hG hC hz r1 r1' r2 hm hqo hnl hae hal hl hn
    go_enter Try.func33, Try.ntmps33
    have HT0 : Hid (Touch (inG p) w w) := Lib.hid (Touch.refl _ _)
    go_wp2_with fail
    refine (HR.out).mono ?_
    rintro e w0 ⟨rfl, rfl⟩
    go_wp2_with fail
    refine (ch_has p c s _ _ HG.out).mono ?_
    rw [HB.out]
    rintro e w1 ⟨rfl, hb⟩
    have HG1 := Lib.hid (HG.out.later hb)
    have HT1 : Hid (Touch (inG p) _ w1) := Lib.hid (HT0.out.trans (Touch.of_below hb))
    have HQ1 := Lib.hid (HQ.out.later hb)
    clear hb
    go_wp2_with fail
    refine (ch_add1 p c s q (3 * k) _ ((a : Int) + 1) _ HG1.out (HQ1.out.cell 0 rfl) (by omega) rfl R1.out).mono ?_
    rintro e w2 ⟨rfl, hG, hT⟩
    have HG2 := Lib.hid hG
    have HT2 : Hid (Touch (inG p) _ w2) := Lib.hid (HT1.out.trans hT)
    have HQ2 := Lib.hid (HQ1.out.touch hT HQo.out)
    clear hG hT
    go_wp2_with fail
    refine (setwordW p c s.got b 5 _ _ 0 _ HG2.out hb H5.out rfl rfl (by omega) (by omega)).mono ?_
    rintro e w3 ⟨rfl, hG, hT⟩
    have HG3 := Lib.hid hG
    have HT3 : Hid (Touch (inG p) _ w3) := Lib.hid (HT2.out.trans hT)
    have HQ3 := Lib.hid (HQ2.out.touch hT HQo.out)
    clear hG hT
    go_wp2_with fail
    refine (setwordW p c _ a 5 _ _ ((b : Int) + 1) _ HG3.out ha H5.out (by first | rfl | exact ew5) rfl (by omega) (by omega)).mono ?_
    rintro e w4 ⟨rfl, hG, hT⟩
    have HG4 := Lib.hid hG
    have HT4 : Hid (Touch (inG p) _ w4) := Lib.hid (HT3.out.trans hT)
    have HQ4 := Lib.hid (HQ3.out.touch hT HQo.out)
    clear hG hT
    go_wp2_with fail
    refine (setregR p c _ (3 * k + 1) _ _ _ HG4.out (by omega) (by first | rfl | exact e1) (by omega) (by omega)).mono ?_
    rintro e w5 ⟨rfl, hG, hT⟩
    have HG5 := Lib.hid hG
    have HT5 : Hid (Touch (inG p) _ w5) := Lib.hid (HT4.out.trans hT)
    have HQ5 := Lib.hid (HQ4.out.touch hT HQo.out)
    clear hG hT
    go_wp2_with fail
    refine (regR p c _ (3 * k + 2) _ _ _ HG5.out (by omega) (by first | rfl | exact e2) R2.out).mono ?_
    rintro e w6 ⟨rfl, hG, hT⟩
    have HG6 := Lib.hid hG
    have HT6 : Hid (Touch (inG p) _ w6) := Lib.hid (HT5.out.trans hT)
    have HQ6 := Lib.hid (HQ5.out.touch hT HQo.out)
    clear hG hT
    go_wp2_with fail
    refine (setregR p c _ (3 * k + 2) _ _ _ HG6.out (by omega) (by first | rfl | exact e2) (by omega) (by omega)).mono ?_
    rintro e w7 ⟨rfl, hG, hT⟩
    have HG7 := Lib.hid hG
    have HT7 : Hid (Touch (inG p) _ w7) := Lib.hid (HT6.out.trans hT)
    have HQ7 := Lib.hid (HQ6.out.touch hT HQo.out)
    clear hG hT
    go_wp2_with fail
    go_ret
    exact ⟨s.m + 6, rfl, HG7.out.to HE.out rfl, by omega, by omega, HT7.out⟩

theorem ch_put_no (p : Pl) (c : Cf) (s : St) (k b : Int) (f : Value) (w : World) (hG : G w p c s) (h : NoPut c k b) :
    Calls Try.prog 33 #[.pointer (some ⟨p.a, 0, none⟩), .int .i64 k, .int .i64 b, f] w (ChPost w p c s s.zs (.bool false)) := by
  have HG := Lib.hid hG
  clear hG
  by_cases hk : k = 0 ∨ k = 1
  · have hb : bel b c.N = false := by
      rcases h with h | h
      · exact absurd hk h
      · unfold bel; exact decide_eq_false h
    have HB := Lib.hid hb
    obtain ⟨j, rfl, hj⟩ : ∃ j : Nat, k = (j : Int) ∧ j < 2 := by rcases hk with rfl | rfl; exact ⟨0, rfl, by omega⟩; exact ⟨1, rfl, by omega⟩
    have HR := Lib.hid (ch_regs p j w hj)
    clear h hk hb
    go_enter Try.func33, Try.ntmps33
    have HT0 : Hid (Touch (inG p) w w) := Lib.hid (Touch.refl _ _)
    go_wp2_with fail
    refine (HR.out).mono ?_
    rintro e w0 ⟨rfl, rfl⟩
    go_wp2_with fail
    refine (ch_has p c s _ _ HG.out).mono ?_
    rw [HB.out]
    rintro e w1 ⟨rfl, hb⟩
    have HG1 := Lib.hid (HG.out.later hb)
    have HT1 : Hid (Touch (inG p) _ w1) := Lib.hid (HT0.out.trans (Touch.of_below hb))
    clear hb
    go_wp2_with fail
    go_ret
    exact ⟨s.m, rfl, HG1.out, Nat.le_refl _, by omega, HT1.out⟩
  · go_enter Try.func33, Try.ntmps33
    have HT0 : Hid (Touch (inG p) w w) := Lib.hid (Touch.refl _ _)
    go_wp2_with fail
    refine (ch_regs_no p k _ hk).mono ?_
    rintro e w0 ⟨rfl, rfl⟩
    go_wp2_with fail
    go_ret
    exact ⟨s.m, rfl, HG.out, Nat.le_refl _, by omega, HT0.out⟩

theorem inG_new {w : World} {p : Pl} {c : Cf} {s : St} (h : G w p c s) : ¬ inG p w.heap.size := by
  rintro (hx | hx)
  · have := h.st.head.lt; omega
  · have := h.st.body.lt; omega
theorem ChPost.fromBox {w w' : World} {p : Pl} {c : Cf} {s : St} {zs : List Int} {v : Value} {o : Obj} {e : Ending} (h : ChPost (w.alloc o) p c s zs v e w') : ChPost w p c s zs v e w' := by
  obtain ⟨m, h1, h2, h3, h4, h5⟩ := h
  exact ⟨m, h1, h2, h3, h4, (Touch.of_below (below_new w o)).trans h5⟩

theorem chainPush_yes (p : Pl) (c : Cf) (s : St) (k b : Nat) (l : List Nat) (w : World) (hG : G w p c s) (hC : ChainAt c s.zs k l) (hk : k < 2) (hb : b < c.N) (hn : b ∉ l) :
    Calls Try.prog 13 #[.pointer (some ⟨p.a, 0, none⟩), .int .i64 (k : Int), .int .i64 (b : Int)] w (ChPost w p c s (pushZ c k b s.zs) (.bool true)) := by
  have hmf : ∀ (fn : Fn) (first cap : Array Value) (w : World), (Instr.makeFunc fn first cap).run Try.prog w = .ok (.func fn first cap) w := fun _ _ _ _ => rfl
  have H := Lib.hid (ch_put_push p c s k b w.heap.size l (w.alloc (.cells #[.pointer (some ⟨p.a, 0, none⟩)] 25)) (hG.alloc _) hC hk hb (Lib.hid (Blk.new w #[.pointer (some ⟨p.a, 0, none⟩)] 25)) (inG_new hG))
  clear hG hC hn
  go_enter Try.func13, Try.ntmps13
  go_wp2_with fail
  refine H.out.mono ?_
  rintro e w1 h
  obtain ⟨m, rfl, h2, h3, h4, h5⟩ := h.fromBox
  have H2 := Lib.hid h2
  have H5 := Lib.hid h5
  clear h h2 h5
  go_wp2_with fail
  go_ret
  exact ⟨m, rfl, H2.out, h3, h4, H5.out⟩
theorem chainAdd_yes (p : Pl) (c : Cf) (s : St) (k b : Nat) (l : List Nat) (w : World) (hG : G w p c s) (hC : ChainAt c s.zs k l) (hk : k < 2) (hb : b < c.N) (hn : b ∉ l) :
    Calls Try.prog 12 #[.pointer (some ⟨p.a, 0, none⟩), .int .i64 (k : Int), .int .i64 (b : Int)] w (ChPost w p c s (addZ c k b s.zs) (.bool true)) := by
  have hmf : ∀ (fn : Fn) (first cap : Array Value) (w : World), (Instr.makeFunc fn first cap).run Try.prog w = .ok (.func fn first cap) w := fun _ _ _ _ => rfl
  have H := Lib.hid (ch_put_add p c s k b w.heap.size l (w.alloc (.cells #[.pointer (some ⟨p.a, 0, none⟩)] 25)) (hG.alloc _) hC hk hb hn (Lib.hid (Blk.new w #[.pointer (some ⟨p.a, 0, none⟩)] 25)) (inG_new hG))
  clear hG hC hn
  go_enter Try.func12, Try.ntmps12
  go_wp2_with fail
  refine H.out.mono ?_
  rintro e w1 h
  obtain ⟨m, rfl, h2, h3, h4, h5⟩ := h.fromBox
  have H2 := Lib.hid h2
  have H5 := Lib.hid h5
  clear h h2 h5
  go_wp2_with fail
  go_ret
  exact ⟨m, rfl, H2.out, h3, h4, H5.out⟩
theorem chainPush_no (p : Pl) (c : Cf) (s : St) (k b : Int) (w : World) (hG : G w p c s) (h : NoPut c k b) :
    Calls Try.prog 13 #[.pointer (some ⟨p.a, 0, none⟩), .int .i64 k, .int .i64 b] w (ChPost w p c s s.zs (.bool false)) := by
  have hmf : ∀ (fn : Fn) (first cap : Array Value) (w : World), (Instr.makeFunc fn first cap).run Try.prog w = .ok (.func fn first cap) w := fun _ _ _ _ => rfl
  have H := Lib.hid (fun f => ch_put_no p c s k b f (w.alloc (.cells #[.pointer (some ⟨p.a, 0, none⟩)] 25)) (hG.alloc _) h)
  clear hG h
  go_enter Try.func13, Try.ntmps13
  go_wp2_with fail
  refine (H.out _).mono ?_
  rintro e w1 h
  obtain ⟨m, rfl, h2, h3, h4, h5⟩ := h.fromBox
  have H2 := Lib.hid h2
  have H5 := Lib.hid h5
  clear h h2 h5
  go_wp2_with fail
  go_ret
  exact ⟨m, rfl, H2.out, h3, h4, H5.out⟩
theorem chainAdd_no (p : Pl) (c : Cf) (s : St) (k b : Int) (w : World) (hG : G w p c s) (h : NoPut c k b) :
    Calls Try.prog 12 #[.pointer (some ⟨p.a, 0, none⟩), .int .i64 k, .int .i64 b] w (ChPost w p c s s.zs (.bool false)) := by
  have hmf : ∀ (fn : Fn) (first cap : Array Value) (w : World), (Instr.makeFunc fn first cap).run Try.prog w = .ok (.func fn first cap) w := fun _ _ _ _ => rfl
  have H := Lib.hid (fun f => ch_put_no p c s k b f (w.alloc (.cells #[.pointer (some ⟨p.a, 0, none⟩)] 25)) (hG.alloc _) h)
  clear hG h
  go_enter Try.func12, Try.ntmps12
  go_wp2_with fail
  refine (H.out _).mono ?_
  rintro e w1 h
  obtain ⟨m, rfl, h2, h3, h4, h5⟩ := h.fromBox
  have H2 := Lib.hid h2
  have H5 := Lib.hid h5
  clear h h2 h5
  go_wp2_with fail
  go_ret
  exact ⟨m, rfl, H2.out, h3, h4, H5.out⟩

end Go.Proofs.Yticlidpdmonijaa.Pk
