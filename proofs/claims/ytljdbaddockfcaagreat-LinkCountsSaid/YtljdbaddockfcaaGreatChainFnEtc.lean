/-
  Texts laid together: ChainFn, ChA, RingLike.
-/
import Derived.Test.YtljdbaddockfcaaGreatChainsEtc
import Derived.Test.YtljdbaddockfcaaGreatGroFnEtc
import Derived.BigQuiet
import Derived.Test.YtljdbaddockfcaaGreatBaseEtc
/-
  What the functions of package chain return.
-/
namespace Go.Proofs.YtljdbaddockfcaaGreat.Pk
open Go.RowKit
set_option linter.unusedVariables false
set_option linter.unusedSimpArgs false

theorem ch_has (p : Pl) (c : Cf) (s : St) (b : Int) (w : World) (hG : G w p c s) :
    Calls Tryz.prog 180 #[.pointer (some ⟨p.a, 0, none⟩), .int .i64 b] w fun e w' => e = .returned (.bool (bel b c.N)) ∧ Below w.heap.size w w' := by
  have HG := Lib.hid hG
  have hfd := cfield0 (c.N : Int) (c.W : Int) (c.R : Int) (c.K : Int)
  clear hG
  by_cases h : 0 ≤ b
  · have E : Hid (decide (b < (c.N : Int)) = bel b c.N) := Lib.hid (by unfold bel; simp [h])
    go_enter Tryz.func180, Tryz.ntmps180
    go_wp2_with fail
    refine (gconfC p c s _ HG.out).mono ?_
    rintro e w1 ⟨rfl, hb⟩
    have HB := Lib.hid hb
    clear hb
    go_wp2_with fail
    go_ret
    exact ⟨ret_bool E.out, HB.out⟩
  · have E : Hid (bel b c.N = false) := Lib.hid (by unfold bel; simp [h])
    have h' : b < 0 := by omega
    go_enter Tryz.func180, Tryz.ntmps180
    go_wp2_with fail
    go_ret
    exact ⟨ret_bool E.out.symm, Below.refl _ _⟩

theorem ch_regs (p : Pl) (k : Nat) (w : World) (hk : k < 2) :
    Calls Tryz.prog 131 #[.pointer (some ⟨p.a, 0, none⟩), .int .i64 (k : Int)] w fun e w' => e = .returned (.tuple #[.int .i64 ((3 * k : Nat) : Int), .bool true]) ∧ w = w' := by
  have hk2 : k = 0 ∨ k = 1 := by omega
  rcases hk2 with rfl | rfl
  all_goals
    go_enter Tryz.func131, Tryz.ntmps131
    go_wp2_with fail
    go_ret2
    exact ⟨rfl, rfl⟩
theorem ch_regs_no (p : Pl) (k : Int) (w : World) (hk : ¬ (k = 0 ∨ k = 1)) :
    Calls Tryz.prog 131 #[.pointer (some ⟨p.a, 0, none⟩), .int .i64 k] w fun e w' => e = .returned (.tuple #[.int .i64 0, .bool false]) ∧ w = w' := by
  by_cases h : 0 ≤ k
  · have h2 : 2 ≤ k := by omega
    clear hk
    go_enter Tryz.func131, Tryz.ntmps131
    go_wp2_with fail
    go_ret2
    exact ⟨rfl, rfl⟩
  · have h2 : k < 0 := by omega
    clear hk h
    go_enter Tryz.func131, Tryz.ntmps131
    go_wp2_with fail
    go_ret2
    exact ⟨rfl, rfl⟩
/-- A block by its name. -/
theorem ch_named (p : Pl) (c : Cf) (s : St) (b : Nat) (x : Int) (w : World) (hG : G w p c s) (hb : b < c.N) (hx : x = (b : Int) + 1) :
    Calls Tryz.prog 132 #[.pointer (some ⟨p.a, 0, none⟩), .int .i64 x] w fun e w' => e = .returned (.tuple #[.int .i64 (b : Int), .bool true]) ∧ Below w.heap.size w w' := by
  subst hx
  have HG := Lib.hid hG
  have hN := hG.may.n
  have E := Lib.hid (bel_mk hb)
  have e1 : IntKind.i64.wrap ((b : Int) + 1 - 1) = (b : Int) := by rw [Int.add_sub_cancel]; exact IntWalk.i64_in _ (by omega)
  clear hG
  go_enter Tryz.func132, Tryz.ntmps132
  go_wp2_with fail
  refine (ch_has p c s _ _ HG.out).mono ?_
  rw [E.out]
  rintro e w1 ⟨rfl, hb1⟩
  have HB := Lib.hid hb1
  clear hb1
  go_wp2_with fail
  go_ret2
  exact ⟨rfl, HB.out⟩
theorem ch_named0 (p : Pl) (c : Cf) (s : St) (w : World) (hG : G w p c s) :
    Calls Tryz.prog 132 #[.pointer (some ⟨p.a, 0, none⟩), .int .i64 0] w fun e w' => e = .returned (.tuple #[.int .i64 0, .bool false]) ∧ Below w.heap.size w w' := by
  have HG := Lib.hid hG
  clear hG
  have E : Hid (bel (-1) c.N = false) := Lib.hid (by unfold bel; simp)
  go_enter Tryz.func132, Tryz.ntmps132
  go_wp2_with fail
  refine (ch_has p c s (-1) _ HG.out).mono ?_
  rw [E.out]
  rintro e w1 ⟨rfl, hb1⟩
  have HB := Lib.hid hb1
  clear hb1
  go_wp2_with fail
  go_ret2
  exact ⟨rfl, HB.out⟩

theorem ch_first (p : Pl) (c : Cf) (s : St) (k b : Nat) (l : List Nat) (w : World) (hG : G w p c s) (hC : ChainAt c s.zs k (b :: l)) (hk : k < 2) :
    Calls Tryz.prog 116 #[.pointer (some ⟨p.a, 0, none⟩), .int .i64 (k : Int)] w (GP w p c s.got (.tuple #[.int .i64 (b : Int), .bool true])) := by
  have HG := Lib.hid hG
  have H0 := Lib.hid (hC.r0.trans (show fstI (b :: l) = (b : Int) + 1 from rfl))
  have hb := hC.lt b (by simp)
  have HR := Lib.hid (ch_regs p k w hk)
  have e1 : IntKind.i64.wrap (((3 * k : Nat) : Int) + 0) = ((3 * k : Nat) : Int) := by rw [Int.add_zero]; exact IntWalk.i64_in _ (by omega)
  clear hG hC
  go_enter Tryz.func116, Tryz.ntmps116
  go_wp2_with fail
  refine HR.out.mono ?_
  rintro e w1 ⟨rfl, rfl⟩
  go_wp2_with fail
  refine (regR p c s (3 * k) _ _ _ HG.out (by omega) (by first | rfl | exact e1) H0.out).mono ?_
  rintro e w1 ⟨rfl, hG1, hT1⟩
  have HG1 := Lib.hid hG1
  have HT1 := Lib.hid hT1
  clear hG1 hT1
  go_wp2_with fail
  refine (ch_named p c s.got b _ _ HG1.out hb rfl).mono ?_
  rintro e w2 ⟨rfl, hb2⟩
  have HG2 := Lib.hid (HG1.out.later hb2)
  have HT2 := Lib.hid (HT1.out.trans (Touch.of_below hb2))
  clear hb2
  go_wp2_with fail
  go_ret2
  exact ⟨rfl, HG2.out, HT2.out⟩
end Go.Proofs.YtljdbaddockfcaaGreat.Pk

/-
  What the functions of package chain return, with the exact number of accesses of each.
-/
namespace Go.Proofs.YtljdbaddockfcaaGreat.Pk
open Go.RowKit
set_option linter.unusedVariables false
set_option linter.unusedSimpArgs false

/-- Accesses of a push, a take, of what fails. -/
def pushD (l : List Nat) : Nat := if l = [] then 6 else 5
def takeD (l : List Nat) : Nat := if l = [] then 7 else 6
def noD (k : Int) : Nat := if k = 0 ∨ k = 1 then 1 else 0

section
variable {c : Cf} {zs : List Int} {k b : Nat}
theorem push_words0 (hm : c.May) (hz : zs.length = c.size) (hk : k < 2) (hb : b < c.N) (h0 : nth zs (3 * k) = 0) :
    ((((zs.set (lnk c b) 0).set (3 * k) ((b : Int) + 1)).set (3 * k + 1) ((b : Int) + 1)).set (3 * k + 2) (nth zs (3 * k + 2) + 1)) = pushZ c k b zs := by
  have hs := hm.size
  have hl := lnk_lt hm hb
  refine eq_ofN (by simp) (fun i hi => ?_)
  unfold pushN
  rw [nth_set (by simp; omega), nth_set (by simp; omega), nth_set (by simp; omega), nth_set (by omega), h0, if_pos rfl]
  by_cases e2 : i = 3 * k + 2
  · rw [if_pos e2, if_pos e2]
  rw [if_neg e2, if_neg e2]
  by_cases e1 : i = 3 * k + 1
  · rw [if_pos e1, if_neg (by omega), if_pos e1]
  rw [if_neg e1]
  by_cases e0 : i = 3 * k
  · rw [if_pos e0, if_pos e0]
  rw [if_neg e0, if_neg e0, if_neg e1]
theorem push_words1 (hm : c.May) (hz : zs.length = c.size) (hk : k < 2) (hb : b < c.N) (h0 : nth zs (3 * k) ≠ 0) :
    (((zs.set (lnk c b) (nth zs (3 * k))).set (3 * k) ((b : Int) + 1)).set (3 * k + 2) (nth zs (3 * k + 2) + 1)) = pushZ c k b zs := by
  have hs := hm.size
  have hl := lnk_lt hm hb
  have hr : ¬ 3 * k + 1 = lnk c b := lnk_reg (by omega)
  refine eq_ofN (by simp) (fun i hi => ?_)
  unfold pushN
  rw [nth_set (by simp; omega), nth_set (by simp; omega), nth_set (by omega), if_neg h0]
  by_cases e2 : i = 3 * k + 2
  · rw [if_pos e2, if_pos e2]
  rw [if_neg e2, if_neg e2]
  by_cases e0 : i = 3 * k
  · rw [if_pos e0, if_pos e0]
  rw [if_neg e0, if_neg e0]
  by_cases e1 : i = 3 * k + 1
  · rw [if_pos e1, e1, if_neg hr]
  rw [if_neg e1]
theorem add_words0 (hm : c.May) (hz : zs.length = c.size) (hk : k < 2) (hb : b < c.N) (h0 : nth zs (3 * k + 1) = 0) :
    ((((zs.set (lnk c b) 0).set (3 * k) ((b : Int) + 1)).set (3 * k + 1) ((b : Int) + 1)).set (3 * k + 2) (nth zs (3 * k + 2) + 1)) = addZ c k b zs := by
  have hs := hm.size
  have hl := lnk_lt hm hb
  refine eq_ofN (by simp) (fun i hi => ?_)
  unfold addN
  rw [nth_set (by simp; omega), nth_set (by simp; omega), nth_set (by simp; omega), nth_set (by omega), h0, if_pos rfl]
  by_cases e2 : i = 3 * k + 2
  · rw [if_pos e2, if_pos e2]
  rw [if_neg e2, if_neg e2]
  by_cases e1 : i = 3 * k + 1
  · rw [if_pos e1, if_neg (by omega), if_pos e1]
  rw [if_neg e1]
  by_cases e0 : i = 3 * k
  · rw [if_pos e0, if_pos e0]
  rw [if_neg e0, if_neg e0, if_neg e1]
  by_cases e : i = lnk c b
  · rw [if_pos e, if_pos e]
  rw [if_neg e, if_neg e, if_neg (by simp)]
theorem add_words1 {x : Nat} (hm : c.May) (hz : zs.length = c.size) (hk : k < 2) (hb : b < c.N) (hx : x < c.N) (hxb : x ≠ b) (h0 : nth zs (3 * k + 1) = (x : Int) + 1) :
    ((((zs.set (lnk c b) 0).set (lnk c x) ((b : Int) + 1)).set (3 * k + 1) ((b : Int) + 1)).set (3 * k + 2) (nth zs (3 * k + 2) + 1)) = addZ c k b zs := by
  have hs := hm.size
  have hl := lnk_lt hm hb
  have hlx := lnk_lt hm hx
  have hr : ¬ 3 * k = lnk c b := lnk_reg (by omega)
  have hr' : ¬ 3 * k = lnk c x := lnk_reg (by omega)
  have hbx : ¬ lnk c b = lnk c x := fun e => hxb (lnk_inj hm e).symm
  refine eq_ofN (by simp) (fun i hi => ?_)
  unfold addN
  rw [nth_set (by simp; omega), nth_set (by simp; omega), nth_set (by simp; omega), nth_set (by omega), h0, if_neg (show ¬ ((x : Int) + 1 = 0) by omega), show ((x : Int) + 1 - 1).toNat = x by omega]
  by_cases e2 : i = 3 * k + 2
  · rw [if_pos e2, if_pos e2]
  rw [if_neg e2, if_neg e2]
  by_cases e1 : i = 3 * k + 1
  · rw [if_pos e1, if_neg (by omega), if_pos e1]
  rw [if_neg e1]
  by_cases e0 : i = 3 * k
  · rw [if_pos e0, e0, if_neg hr', if_neg hr]
  rw [if_neg e0, if_neg e1]
  by_cases e : i = lnk c b
  · rw [if_pos e, e, if_neg hbx, if_pos rfl]
  rw [if_neg e, if_neg e]
  by_cases e' : i = lnk c x
  · rw [if_pos e', if_pos ⟨by omega, e'⟩]
  rw [if_neg e', if_neg (fun h => e' h.2)]
theorem take_words0 (hm : c.May) (hz : zs.length = c.size) (hk : k < 2) (hb : b < c.N) (h0 : nth zs (lnk c b) = 0) :
    ((((zs.set (3 * k) 0).set (3 * k + 1) 0).set (lnk c b) 0).set (3 * k + 2) (nth zs (3 * k + 2) - 1)) = takeZ c k b zs := by
  have hs := hm.size
  have hl := lnk_lt hm hb
  have hr1 : ¬ 3 * k + 1 = lnk c b := lnk_reg (by omega)
  have hr0 : ¬ 3 * k = lnk c b := lnk_reg (by omega)
  refine eq_ofN (by simp) (fun i hi => ?_)
  unfold takeN
  rw [nth_set (by simp; omega), nth_set (by simp; omega), nth_set (by simp; omega), nth_set (by omega), h0, if_pos rfl]
  by_cases e2 : i = 3 * k + 2
  · rw [if_pos e2, if_pos e2]
  rw [if_neg e2, if_neg e2]
  by_cases e : i = lnk c b
  · rw [if_pos e, if_neg (by omega), if_neg (by omega), if_pos e]
  rw [if_neg e, if_neg e]
  by_cases e1 : i = 3 * k + 1
  · rw [if_pos e1, if_neg (by omega), if_pos e1]
  rw [if_neg e1, if_neg e1]
theorem take_words1 (hm : c.May) (hz : zs.length = c.size) (hk : k < 2) (hb : b < c.N) (h0 : nth zs (lnk c b) ≠ 0) :
    (((zs.set (3 * k) (nth zs (lnk c b))).set (lnk c b) 0).set (3 * k + 2) (nth zs (3 * k + 2) - 1)) = takeZ c k b zs := by
  have hs := hm.size
  have hl := lnk_lt hm hb
  have hr1 : ¬ 3 * k + 1 = lnk c b := lnk_reg (by omega)
  have hr0 : ¬ 3 * k = lnk c b := lnk_reg (by omega)
  refine eq_ofN (by simp) (fun i hi => ?_)
  unfold takeN
  rw [nth_set (by simp; omega), nth_set (by simp; omega), nth_set (by omega), if_neg h0]
  by_cases e2 : i = 3 * k + 2
  · rw [if_pos e2, if_pos e2]
  rw [if_neg e2, if_neg e2]
  by_cases e : i = lnk c b
  · rw [if_pos e, if_neg (by omega), if_neg (by omega), if_pos e]
  rw [if_neg e, if_neg e]
  by_cases e1 : i = 3 * k + 1
  · rw [e1, if_neg (by omega), if_neg (by omega), if_pos rfl]
  rw [if_neg e1]
end

theorem ch_push1 (p : Pl) (c : Cf) (s : St) (q r : Nat) (x y : Int) (w : World) (hG : G w p c s) (hq : w.cell? ⟨q, 0, none⟩ = some (.pointer (some ⟨p.a, 0, none⟩))) (hr : r < 20) (hx : x = (r : Int)) (hy : nth s.zs r = y) :
    Calls Tryz.prog 221 #[.int .i64 x, .pointer (some ⟨q, 0, none⟩)] w (GP w p c s.got (.tuple #[.int .i64 0, .int .i64 y])) := by
  have HG := Lib.hid hG
  subst hx
  have e1 : IntKind.i64.wrap ((r : Int) + 0) = (r : Int) := by rw [Int.add_zero]; exact IntWalk.i64_in _ (by omega)
  have HY := Lib.hid hy
  clear hG hy
  go_enter Tryz.func221, Tryz.ntmps221
  go_wp2_with fail
  refine (regR p c s r _ _ _ HG.out (by omega) (by first | rfl | exact e1) HY.out).mono ?_
  rintro e w1 ⟨rfl, hG1, hT1⟩
  have HG1 := Lib.hid hG1
  have HT1 := Lib.hid hT1
  clear hG1 hT1
  go_wp2_with fail
  go_ret2
  exact ⟨rfl, HG1.out, HT1.out⟩
theorem ch_add1 (p : Pl) (c : Cf) (s : St) (q r : Nat) (x y : Int) (w : World) (hG : G w p c s) (hq : w.cell? ⟨q, 0, none⟩ = some (.pointer (some ⟨p.a, 0, none⟩))) (hr : r < 20) (hx : x = (r : Int)) (hy : nth s.zs (r + 1) = y) :
    Calls Tryz.prog 164 #[.int .i64 x, .pointer (some ⟨q, 0, none⟩)] w (GP w p c s.got (.tuple #[.int .i64 y, .int .i64 0])) := by
  have HG := Lib.hid hG
  subst hx
  have e1 : IntKind.i64.wrap ((r : Int) + 1) = ((r + 1 : Nat) : Int) := by rw [show (r : Int) + 1 = ((r + 1 : Nat) : Int) by omega]; exact IntWalk.i64_in _ (by omega)
  have HY := Lib.hid hy
  clear hG hy
  go_enter Tryz.func164, Tryz.ntmps164
  go_wp2_with fail
  refine (regR p c s (r + 1) _ _ _ HG.out (by omega) (by first | rfl | exact e1) HY.out).mono ?_
  rintro e w1 ⟨rfl, hG1, hT1⟩
  have HG1 := Lib.hid hG1
  have HT1 := Lib.hid hT1
  clear hG1 hT1
  go_wp2_with fail
  go_ret2
  exact ⟨rfl, HG1.out, HT1.out⟩

theorem regs_wraps {k : Nat} (hk : k < 2) : IntKind.i64.wrap (((3 * k : Nat) : Int) + 0) = ((3 * k : Nat) : Int) ∧ IntKind.i64.wrap (((3 * k : Nat) : Int) + 1) = ((3 * k + 1 : Nat) : Int) ∧ IntKind.i64.wrap (((3 * k : Nat) : Int) + 2) = ((3 * k + 2 : Nat) : Int) := by
  refine ⟨?_, ?_, ?_⟩
  · rw [Int.add_zero]; exact IntWalk.i64_in _ (by omega)
  · rw [show ((3 * k : Nat) : Int) + 1 = ((3 * k + 1 : Nat) : Int) by omega]; exact IntWalk.i64_in _ (by omega)
  · rw [show ((3 * k : Nat) : Int) + 2 = ((3 * k + 2 : Nat) : Int) by omega]; exact IntWalk.i64_in _ (by omega)


theorem Grd.to {tg ts e : TypeId} {w : World} {p : Pl} {c : Cf} {s : St} {zs : List Int} {m : Nat} (h : Grd tg ts e w p c s) (hz : s.zs = zs) (hm : s.m = m) : Grd tg ts e w p c ⟨zs, m⟩ := by subst hz hm; exact h
theorem cx_first_no (p : Pl) (c : Cf) (s : St) (k : Int) (w : World) (hG : G w p c s) (h : NoTake c s.zs k) :
    Calls Tryz.prog 116 #[.pointer (some ⟨p.a, 0, none⟩), .int .i64 k] w (GP w p c ⟨s.zs, s.m + noD k⟩ (.tuple #[.int .i64 0, .bool false])) := by
  have HG := Lib.hid hG
  clear hG
  rcases h with h | ⟨j, rfl, hj, hC⟩
  · go_enter Tryz.func116, Tryz.ntmps116
    go_wp2_with fail
    refine (ch_regs_no p k _ h).mono ?_
    rintro e w1 ⟨rfl, rfl⟩
    go_wp2_with fail
    go_ret2
    exact ⟨rfl, HG.out.to rfl (by unfold noD; rw [if_neg h]; rfl), Touch.refl _ _⟩
  · have H0 := Lib.hid (hC.r0.trans (show fstI [] = (0 : Int) from rfl))
    have HR := Lib.hid (ch_regs p j w hj)
    have e1 : IntKind.i64.wrap (((3 * j : Nat) : Int) + 0) = ((3 * j : Nat) : Int) := by rw [Int.add_zero]; exact IntWalk.i64_in _ (by omega)
    clear hC
    go_enter Tryz.func116, Tryz.ntmps116
    go_wp2_with fail
    refine HR.out.mono ?_
    rintro e w1 ⟨rfl, rfl⟩
    go_wp2_with fail
    refine (regR p c s (3 * j) _ _ _ HG.out (by omega) (by first | rfl | exact e1) H0.out).mono ?_
    rintro e w1 ⟨rfl, hG1, hT1⟩
    have HG1 := Lib.hid hG1
    have HT1 := Lib.hid hT1
    clear hG1 hT1
    go_wp2_with fail
    refine (ch_named0 p c s.got _ HG1.out).mono ?_
    rintro e w2 ⟨rfl, hb2⟩
    have HG2 := Lib.hid (HG1.out.later hb2)
    have HT2 := Lib.hid (HT1.out.trans (Touch.of_below hb2))
    clear hb2
    go_wp2_with fail
    go_ret2
    exact ⟨rfl, HG2.out.to rfl (by unfold noD; rw [if_pos (by omega)]; rfl), HT2.out⟩

theorem cx_len (p : Pl) (c : Cf) (s : St) (k : Nat) (l : List Nat) (w : World) (hG : G w p c s) (hC : ChainAt c s.zs k l) (hk : k < 2) :
    Calls Tryz.prog 67 #[.pointer (some ⟨p.a, 0, none⟩), .int .i64 (k : Int)] w (GP w p c s.got (.int .i64 (l.length : Int))) := by
  have HG := Lib.hid hG
  have H0 := Lib.hid hC.r2
  have HR := Lib.hid (ch_regs p k w hk)
  have e1 : IntKind.i64.wrap (((3 * k : Nat) : Int) + 2) = ((3 * k + 2 : Nat) : Int) := by rw [show ((3 * k : Nat) : Int) + 2 = ((3 * k + 2 : Nat) : Int) by omega]; exact IntWalk.i64_in _ (by omega)
  clear hG hC
  go_enter Tryz.func67, Tryz.ntmps67
  go_wp2_with fail
  refine HR.out.mono ?_
  rintro e w1 ⟨rfl, rfl⟩
  go_wp2_with fail
  refine (regR p c s (3 * k + 2) _ _ _ HG.out (by omega) (by first | rfl | exact e1) H0.out).mono ?_
  rintro e w1 ⟨rfl, hG1, hT1⟩
  have HG1 := Lib.hid hG1
  have HT1 := Lib.hid hT1
  clear hG1 hT1
  go_wp2_with fail
  go_ret
  exact ⟨rfl, HG1.out, HT1.out⟩
/-- The box of a closure. -/
abbrev Box (w : World) (q : Nat) (p : Pl) : Prop := Blk w q #[.pointer (some ⟨p.a, 0, none⟩)] 26

set_option maxHeartbeats 1000000 in
theorem cx_put_push (p : Pl) (c : Cf) (s : St) (k b q : Nat) (l : List Nat) (w : World) (hG : G w p c s) (hC : ChainAt c s.zs k l) (hk : k < 2) (hb : b < c.N) (HQ : Hid (Box w q p)) (hqo : ¬ inG p q) :
    Calls Tryz.prog 163 #[.pointer (some ⟨p.a, 0, none⟩), .int .i64 (k : Int), .int .i64 (b : Int), .func (.func 221) #[] #[.pointer (some ⟨q, 0, none⟩)]] w (GP w p c ⟨pushZ c k b s.zs, s.m + pushD l⟩ (.bool true)) := by
  have HG := Lib.hid hG
  have hm := hG.may
  have hz := hG.len
  have hN := hm.n
  have hW := hm.w
  have hlk := nodup_len hC.nd hC.lt
  have r0 : nth s.zs (3 * k) = fstI l := hC.r0
  obtain ⟨n, hnl⟩ : ∃ n : Nat, n = l.length := ⟨_, rfl⟩
  have hnN : n ≤ c.N := by rw [hnl]; exact hlk
  have r2 : nth s.zs (3 * k + 2) = (n : Int) := by rw [hnl]; exact hC.r2
  have HR := Lib.hid (ch_regs p k w hk)
  obtain ⟨e0, e1, e2⟩ := regs_wraps hk
  have ew1 : IntKind.i64.wrap ((b : Int) + 1) = (b : Int) + 1 := IntWalk.i64_in _ (by omega)
  have ew3 : IntKind.i64.wrap ((n : Int) + 1) = (n : Int) + 1 := IntWalk.i64_in _ (by omega)
  have HB := Lib.hid (bel_mk hb)
  have R0 := Lib.hid r0
  have H5 : Hid (5 < c.W) := Lib.hid (by omega)
  have HQo := Lib.hid hqo
  cases l with
  | nil =>
    have ew2 : IntKind.u32.wrap 0 = 0 := IntWalk.u32_in _ (by omega)
    have HE := Lib.hid (push_words0 hm hz hk hb r0)
    rw [r2] at HE
    have R2 : Hid (nth (((s.zs.set (lnk c b) 0).set (3 * k) ((b : Int) + 1)).set (3 * k + 1) ((b : Int) + 1)) (3 * k + 2) = (n : Int)) := Lib.hid (by
      rw [nth_set_ne (by omega), nth_set_ne (by omega), nth_set_ne (lnk_reg' (by omega))]; exact r2)
    clear hG hC hz r0 r2 hm hqo hnl
    go_enter Tryz.func163, Tryz.ntmps163
    have HT0 : Hid (Touch (inG p) w w) := Lib.hid (Touch.refl _ _)
    go_wp2_with fail
    refine (HR.out).mono ?_
    rintro e wm0 ⟨rfl, rfl⟩
    go_wp2_with fail
    refine (ch_has p c s _ _ HG.out).mono ?_
    rw [HB.out]
    rintro e wm1 ⟨rfl, hb⟩
    have HG1 := Lib.hid (HG.out.later hb)
    have HT1 : Hid (Touch (inG p) _ wm1) := Lib.hid (HT0.out.trans (Touch.of_below hb))
    have HQ1 := Lib.hid (HQ.out.later hb)
    clear hb
    go_wp2_with fail
    refine (ch_push1 p c s q (3 * k) _ 0 _ HG1.out (HQ1.out.cell 0 rfl) (by omega) rfl R0.out).mono ?_
    rintro e wm2 ⟨rfl, hG, hT⟩
    have HG2 := Lib.hid hG
    have HT2 : Hid (Touch (inG p) _ wm2) := Lib.hid (HT1.out.trans hT)
    have HQ2 := Lib.hid (HQ1.out.touch hT HQo.out)
    clear hG hT
    go_wp2_with fail
    refine (setwordW p c s.got b 5 _ _ 0 _ HG2.out hb H5.out rfl rfl (by omega) (by omega)).mono ?_
    rintro e wm3 ⟨rfl, hG, hT⟩
    have HG3 := Lib.hid hG
    have HT3 : Hid (Touch (inG p) _ wm3) := Lib.hid (HT2.out.trans hT)
    have HQ3 := Lib.hid (HQ2.out.touch hT HQo.out)
    clear hG hT
    go_wp2_with fail
    refine (setregR p c _ (3 * k) _ _ _ HG3.out (by omega) (by first | rfl | exact e0) (by omega) (by omega)).mono ?_
    rintro e wm4 ⟨rfl, hG, hT⟩
    have HG4 := Lib.hid hG
    have HT4 : Hid (Touch (inG p) _ wm4) := Lib.hid (HT3.out.trans hT)
    have HQ4 := Lib.hid (HQ3.out.touch hT HQo.out)
    clear hG hT
    go_wp2_with fail
    refine (setregR p c _ (3 * k + 1) _ _ _ HG4.out (by omega) (by first | rfl | exact e1) (by omega) (by omega)).mono ?_
    rintro e wm5 ⟨rfl, hG, hT⟩
    have HG5 := Lib.hid hG
    have HT5 : Hid (Touch (inG p) _ wm5) := Lib.hid (HT4.out.trans hT)
    have HQ5 := Lib.hid (HQ4.out.touch hT HQo.out)
    clear hG hT
    go_wp2_with fail
    refine (regR p c _ (3 * k + 2) _ _ _ HG5.out (by omega) (by first | rfl | exact e2) R2.out).mono ?_
    rintro e wm6 ⟨rfl, hG, hT⟩
    have HG6 := Lib.hid hG
    have HT6 : Hid (Touch (inG p) _ wm6) := Lib.hid (HT5.out.trans hT)
    have HQ6 := Lib.hid (HQ5.out.touch hT HQo.out)
    clear hG hT
    go_wp2_with fail
    refine (setregR p c _ (3 * k + 2) _ _ _ HG6.out (by omega) (by first | rfl | exact e2) (by omega) (by omega)).mono ?_
    rintro e wm7 ⟨rfl, hG, hT⟩
    have HG7 := Lib.hid hG
    have HT7 : Hid (Touch (inG p) _ wm7) := Lib.hid (HT6.out.trans hT)
    have HQ7 := Lib.hid (HQ6.out.touch hT HQo.out)
    clear hG hT
    go_wp2_with fail
    go_ret
    exact ⟨rfl, HG7.out.to HE.out rfl, HT7.out⟩
  | cons a t =>
    have ha := hC.lt a (by simp)
    have r0' : nth s.zs (3 * k) = (a : Int) + 1 := r0
    have hbn : ((a : Int) + 1 == 0) = false := bne_of' (by omega)
    have ew2 : IntKind.u32.wrap ((a : Int) + 1) = (a : Int) + 1 := IntWalk.u32_in _ (by omega)
    have HE := Lib.hid (push_words1 hm hz hk hb (by rw [r0']; omega))
    rw [r2, r0'] at HE
    have R2 : Hid (nth ((s.zs.set (lnk c b) ((a : Int) + 1)).set (3 * k) ((b : Int) + 1)) (3 * k + 2) = (n : Int)) := Lib.hid (by
      rw [nth_set_ne (by omega), nth_set_ne (lnk_reg' (by omega))]; exact r2)
    clear hG hC hz r0 r0' r2 hm hqo hnl
    go_enter Tryz.func163, Tryz.ntmps163
    have HT0 : Hid (Touch (inG p) w w) := Lib.hid (Touch.refl _ _)
    go_wp2_with fail
    refine (HR.out).mono ?_
    rintro e wm0 ⟨rfl, rfl⟩
    go_wp2_with fail
    refine (ch_has p c s _ _ HG.out).mono ?_
    rw [HB.out]
    rintro e wm1 ⟨rfl, hb⟩
    have HG1 := Lib.hid (HG.out.later hb)
    have HT1 : Hid (Touch (inG p) _ wm1) := Lib.hid (HT0.out.trans (Touch.of_below hb))
    have HQ1 := Lib.hid (HQ.out.later hb)
    clear hb
    go_wp2_with fail
    refine (ch_push1 p c s q (3 * k) _ ((a : Int) + 1) _ HG1.out (HQ1.out.cell 0 rfl) (by omega) rfl R0.out).mono ?_
    rintro e wm2 ⟨rfl, hG, hT⟩
    have HG2 := Lib.hid hG
    have HT2 : Hid (Touch (inG p) _ wm2) := Lib.hid (HT1.out.trans hT)
    have HQ2 := Lib.hid (HQ1.out.touch hT HQo.out)
    clear hG hT
    go_wp2_with fail
    refine (setwordW p c s.got b 5 _ _ ((a : Int) + 1) _ HG2.out hb H5.out rfl rfl (by omega) (by omega)).mono ?_
    rintro e wm3 ⟨rfl, hG, hT⟩
    have HG3 := Lib.hid hG
    have HT3 : Hid (Touch (inG p) _ wm3) := Lib.hid (HT2.out.trans hT)
    have HQ3 := Lib.hid (HQ2.out.touch hT HQo.out)
    clear hG hT
    go_wp2_with fail
    refine (setregR p c _ (3 * k) _ _ _ HG3.out (by omega) (by first | rfl | exact e0) (by omega) (by omega)).mono ?_
    rintro e wm4 ⟨rfl, hG, hT⟩
    have HG4 := Lib.hid hG
    have HT4 : Hid (Touch (inG p) _ wm4) := Lib.hid (HT3.out.trans hT)
    have HQ4 := Lib.hid (HQ3.out.touch hT HQo.out)
    clear hG hT
    go_wp2_with fail
    refine (regR p c _ (3 * k + 2) _ _ _ HG4.out (by omega) (by first | rfl | exact e2) R2.out).mono ?_
    rintro e wm5 ⟨rfl, hG, hT⟩
    have HG5 := Lib.hid hG
    have HT5 : Hid (Touch (inG p) _ wm5) := Lib.hid (HT4.out.trans hT)
    have HQ5 := Lib.hid (HQ4.out.touch hT HQo.out)
    clear hG hT
    go_wp2_with fail
    refine (setregR p c _ (3 * k + 2) _ _ _ HG5.out (by omega) (by first | rfl | exact e2) (by omega) (by omega)).mono ?_
    rintro e wm6 ⟨rfl, hG, hT⟩
    have HG6 := Lib.hid hG
    have HT6 : Hid (Touch (inG p) _ wm6) := Lib.hid (HT5.out.trans hT)
    have HQ6 := Lib.hid (HQ5.out.touch hT HQo.out)
    clear hG hT
    go_wp2_with fail
    go_ret
    exact ⟨rfl, HG6.out.to HE.out rfl, HT6.out⟩

set_option maxHeartbeats 1000000 in
theorem cx_put_add (p : Pl) (c : Cf) (s : St) (k b q : Nat) (l : List Nat) (w : World) (hG : G w p c s) (hC : ChainAt c s.zs k l) (hk : k < 2) (hb : b < c.N) (hn : b ∉ l) (HQ : Hid (Box w q p)) (hqo : ¬ inG p q) :
    Calls Tryz.prog 163 #[.pointer (some ⟨p.a, 0, none⟩), .int .i64 (k : Int), .int .i64 (b : Int), .func (.func 164) #[] #[.pointer (some ⟨q, 0, none⟩)]] w (GP w p c ⟨addZ c k b s.zs, s.m + 6⟩ (.bool true)) := by
  have HG := Lib.hid hG
  have hm := hG.may
  have hz := hG.len
  have hN := hm.n
  have hW := hm.w
  have hlk := nodup_len hC.nd hC.lt
  have r1 : nth s.zs (3 * k + 1) = lstI l := hC.r1
  obtain ⟨n, hnl⟩ : ∃ n : Nat, n = l.length := ⟨_, rfl⟩
  have hnN : n ≤ c.N := by rw [hnl]; exact hlk
  have r2 : nth s.zs (3 * k + 2) = (n : Int) := by rw [hnl]; exact hC.r2
  have HR := Lib.hid (ch_regs p k w hk)
  obtain ⟨e0, e1, e2⟩ := regs_wraps hk
  have ew1 : IntKind.i64.wrap ((b : Int) + 1) = (b : Int) + 1 := IntWalk.i64_in _ (by omega)
  have ew3 : IntKind.i64.wrap ((n : Int) + 1) = (n : Int) + 1 := IntWalk.i64_in _ (by omega)
  have ew2 : IntKind.u32.wrap 0 = 0 := IntWalk.u32_in _ (by omega)
  have HB := Lib.hid (bel_mk hb)
  have H5 : Hid (5 < c.W) := Lib.hid (by omega)
  have HQo := Lib.hid hqo
  by_cases hl : l = []
  · subst hl
    have r1' : nth s.zs (3 * k + 1) = 0 := r1
    have R1 := Lib.hid r1'
    have HE := Lib.hid (add_words0 hm hz hk hb r1')
    rw [r2] at HE
    have R2 : Hid (nth (((s.zs.set (lnk c b) 0).set (3 * k) ((b : Int) + 1)).set (3 * k + 1) ((b : Int) + 1)) (3 * k + 2) = (n : Int)) := Lib.hid (by
      rw [nth_set_ne (by omega), nth_set_ne (by omega), nth_set_ne (lnk_reg' (by omega))]; exact r2)
    clear hG hC hz r1 r1' r2 hm hqo hnl
    go_enter Tryz.func163, Tryz.ntmps163
    have HT0 : Hid (Touch (inG p) w w) := Lib.hid (Touch.refl _ _)
    go_wp2_with fail
    refine (HR.out).mono ?_
    rintro e wm0 ⟨rfl, rfl⟩
    go_wp2_with fail
    refine (ch_has p c s _ _ HG.out).mono ?_
    rw [HB.out]
    rintro e wm1 ⟨rfl, hb⟩
    have HG1 := Lib.hid (HG.out.later hb)
    have HT1 : Hid (Touch (inG p) _ wm1) := Lib.hid (HT0.out.trans (Touch.of_below hb))
    have HQ1 := Lib.hid (HQ.out.later hb)
    clear hb
    go_wp2_with fail
    refine (ch_add1 p c s q (3 * k) _ 0 _ HG1.out (HQ1.out.cell 0 rfl) (by omega) rfl R1.out).mono ?_
    rintro e wm2 ⟨rfl, hG, hT⟩
    have HG2 := Lib.hid hG
    have HT2 : Hid (Touch (inG p) _ wm2) := Lib.hid (HT1.out.trans hT)
    have HQ2 := Lib.hid (HQ1.out.touch hT HQo.out)
    clear hG hT
    go_wp2_with fail
    refine (setwordW p c s.got b 5 _ _ 0 _ HG2.out hb H5.out rfl rfl (by omega) (by omega)).mono ?_
    rintro e wm3 ⟨rfl, hG, hT⟩
    have HG3 := Lib.hid hG
    have HT3 : Hid (Touch (inG p) _ wm3) := Lib.hid (HT2.out.trans hT)
    have HQ3 := Lib.hid (HQ2.out.touch hT HQo.out)
    clear hG hT
    go_wp2_with fail
    refine (setregR p c _ (3 * k) _ _ _ HG3.out (by omega) (by first | rfl | exact e0) (by omega) (by omega)).mono ?_
    rintro e wm4 ⟨rfl, hG, hT⟩
    have HG4 := Lib.hid hG
    have HT4 : Hid (Touch (inG p) _ wm4) := Lib.hid (HT3.out.trans hT)
    have HQ4 := Lib.hid (HQ3.out.touch hT HQo.out)
    clear hG hT
    go_wp2_with fail
    refine (setregR p c _ (3 * k + 1) _ _ _ HG4.out (by omega) (by first | rfl | exact e1) (by omega) (by omega)).mono ?_
    rintro e wm5 ⟨rfl, hG, hT⟩
    have HG5 := Lib.hid hG
    have HT5 : Hid (Touch (inG p) _ wm5) := Lib.hid (HT4.out.trans hT)
    have HQ5 := Lib.hid (HQ4.out.touch hT HQo.out)
    clear hG hT
    go_wp2_with fail
    refine (regR p c _ (3 * k + 2) _ _ _ HG5.out (by omega) (by first | rfl | exact e2) R2.out).mono ?_
    rintro e wm6 ⟨rfl, hG, hT⟩
    have HG6 := Lib.hid hG
    have HT6 : Hid (Touch (inG p) _ wm6) := Lib.hid (HT5.out.trans hT)
    have HQ6 := Lib.hid (HQ5.out.touch hT HQo.out)
    clear hG hT
    go_wp2_with fail
    refine (setregR p c _ (3 * k + 2) _ _ _ HG6.out (by omega) (by first | rfl | exact e2) (by omega) (by omega)).mono ?_
    rintro e wm7 ⟨rfl, hG, hT⟩
    have HG7 := Lib.hid hG
    have HT7 : Hid (Touch (inG p) _ wm7) := Lib.hid (HT6.out.trans hT)
    have HQ7 := Lib.hid (HQ6.out.touch hT HQo.out)
    clear hG hT
    go_wp2_with fail
    go_ret
    exact ⟨rfl, HG7.out.to HE.out rfl, HT7.out⟩
  · obtain ⟨a, hal, hae⟩ := lstI_mem l hl
    have ha := hC.lt a hal
    have r1' : nth s.zs (3 * k + 1) = (a : Int) + 1 := r1.trans hae
    have R1 := Lib.hid r1'
    have hbn : ((a : Int) + 1 == 0) = false := bne_of' (by omega)
    have ew4 : IntKind.u32.wrap ((b : Int) + 1) = (b : Int) + 1 := IntWalk.u32_in _ (by omega)
    have ew5 : IntKind.i64.wrap ((a : Int) + 1 - 1) = (a : Int) := by rw [Int.add_sub_cancel]; exact IntWalk.i64_in _ (by omega)
    have HE := Lib.hid (add_words1 hm hz hk hb ha (fun e => hn (by rw [← e]; exact hal)) r1')
    rw [r2] at HE
    have R2 : Hid (nth (((s.zs.set (lnk c b) 0).set (lnk c a) ((b : Int) + 1)).set (3 * k + 1) ((b : Int) + 1)) (3 * k + 2) = (n : Int)) := Lib.hid (by
      rw [nth_set_ne (by omega), nth_set_ne (lnk_reg' (by omega)), nth_set_ne (lnk_reg' (by omega))]; exact r2)
    clear hG hC hz r1 r1' r2 hm hqo hnl hae hal hl hn
    go_enter Tryz.func163, Tryz.ntmps163
    have HT0 : Hid (Touch (inG p) w w) := Lib.hid (Touch.refl _ _)
    go_wp2_with fail
    refine (HR.out).mono ?_
    rintro e wm0 ⟨rfl, rfl⟩
    go_wp2_with fail
    refine (ch_has p c s _ _ HG.out).mono ?_
    rw [HB.out]
    rintro e wm1 ⟨rfl, hb⟩
    have HG1 := Lib.hid (HG.out.later hb)
    have HT1 : Hid (Touch (inG p) _ wm1) := Lib.hid (HT0.out.trans (Touch.of_below hb))
    have HQ1 := Lib.hid (HQ.out.later hb)
    clear hb
    go_wp2_with fail
    refine (ch_add1 p c s q (3 * k) _ ((a : Int) + 1) _ HG1.out (HQ1.out.cell 0 rfl) (by omega) rfl R1.out).mono ?_
    rintro e wm2 ⟨rfl, hG, hT⟩
    have HG2 := Lib.hid hG
    have HT2 : Hid (Touch (inG p) _ wm2) := Lib.hid (HT1.out.trans hT)
    have HQ2 := Lib.hid (HQ1.out.touch hT HQo.out)
    clear hG hT
    go_wp2_with fail
    refine (setwordW p c s.got b 5 _ _ 0 _ HG2.out hb H5.out rfl rfl (by omega) (by omega)).mono ?_
    rintro e wm3 ⟨rfl, hG, hT⟩
    have HG3 := Lib.hid hG
    have HT3 : Hid (Touch (inG p) _ wm3) := Lib.hid (HT2.out.trans hT)
    have HQ3 := Lib.hid (HQ2.out.touch hT HQo.out)
    clear hG hT
    go_wp2_with fail
    refine (setwordW p c _ a 5 _ _ ((b : Int) + 1) _ HG3.out ha H5.out (by first | rfl | exact ew5) rfl (by omega) (by omega)).mono ?_
    rintro e wm4 ⟨rfl, hG, hT⟩
    have HG4 := Lib.hid hG
    have HT4 : Hid (Touch (inG p) _ wm4) := Lib.hid (HT3.out.trans hT)
    have HQ4 := Lib.hid (HQ3.out.touch hT HQo.out)
    clear hG hT
    go_wp2_with fail
    refine (setregR p c _ (3 * k + 1) _ _ _ HG4.out (by omega) (by first | rfl | exact e1) (by omega) (by omega)).mono ?_
    rintro e wm5 ⟨rfl, hG, hT⟩
    have HG5 := Lib.hid hG
    have HT5 : Hid (Touch (inG p) _ wm5) := Lib.hid (HT4.out.trans hT)
    have HQ5 := Lib.hid (HQ4.out.touch hT HQo.out)
    clear hG hT
    go_wp2_with fail
    refine (regR p c _ (3 * k + 2) _ _ _ HG5.out (by omega) (by first | rfl | exact e2) R2.out).mono ?_
    rintro e wm6 ⟨rfl, hG, hT⟩
    have HG6 := Lib.hid hG
    have HT6 : Hid (Touch (inG p) _ wm6) := Lib.hid (HT5.out.trans hT)
    have HQ6 := Lib.hid (HQ5.out.touch hT HQo.out)
    clear hG hT
    go_wp2_with fail
    refine (setregR p c _ (3 * k + 2) _ _ _ HG6.out (by omega) (by first | rfl | exact e2) (by omega) (by omega)).mono ?_
    rintro e wm7 ⟨rfl, hG, hT⟩
    have HG7 := Lib.hid hG
    have HT7 : Hid (Touch (inG p) _ wm7) := Lib.hid (HT6.out.trans hT)
    have HQ7 := Lib.hid (HQ6.out.touch hT HQo.out)
    clear hG hT
    go_wp2_with fail
    go_ret
    exact ⟨rfl, HG7.out.to HE.out rfl, HT7.out⟩

theorem inG_new {w : World} {p : Pl} {c : Cf} {s : St} (h : G w p c s) : ¬ inG p w.heap.size := by
  rintro (hx | hx)
  · have := h.st.head.lt; omega
  · have := h.st.body.lt; omega
theorem GP.fromBox {w w' : World} {p : Pl} {c : Cf} {s : St} {v : Value} {o : Obj} {e : Ending} (h : GP (w.alloc o) p c s v e w') : GP w p c s v e w' :=
  ⟨h.1, h.2.1, (Touch.of_below (below_new w o)).trans h.2.2⟩

theorem cxPush_yes (p : Pl) (c : Cf) (s : St) (k b : Nat) (l : List Nat) (w : World) (hG : G w p c s) (hC : ChainAt c s.zs k l) (hk : k < 2) (hb : b < c.N) (hn : b ∉ l) :
    Calls Tryz.prog 198 #[.pointer (some ⟨p.a, 0, none⟩), .int .i64 (k : Int), .int .i64 (b : Int)] w (GP w p c ⟨pushZ c k b s.zs, s.m + pushD l⟩ (.bool true)) := by
  have hmf : ∀ (fn : Fn) (first cap : Array Value) (w : World), (Instr.makeFunc fn first cap).run Tryz.prog w = .ok (.func fn first cap) w := fun _ _ _ _ => rfl
  have H := Lib.hid (cx_put_push p c s k b w.heap.size l (w.alloc (.cells #[.pointer (some ⟨p.a, 0, none⟩)] 26)) (hG.alloc _) hC hk hb (Lib.hid (Blk.new w #[.pointer (some ⟨p.a, 0, none⟩)] 26)) (inG_new hG))
  clear hG hC hn
  go_enter Tryz.func198, Tryz.ntmps198
  go_wp2_with fail
  refine H.out.mono ?_
  rintro e w1 h
  obtain ⟨rfl, h2, h5⟩ := h.fromBox
  have H2 := Lib.hid h2
  have H5 := Lib.hid h5
  clear h h2 h5
  go_wp2_with fail
  go_ret
  exact ⟨rfl, H2.out, H5.out⟩
theorem cxAdd_yes (p : Pl) (c : Cf) (s : St) (k b : Nat) (l : List Nat) (w : World) (hG : G w p c s) (hC : ChainAt c s.zs k l) (hk : k < 2) (hb : b < c.N) (hn : b ∉ l) :
    Calls Tryz.prog 115 #[.pointer (some ⟨p.a, 0, none⟩), .int .i64 (k : Int), .int .i64 (b : Int)] w (GP w p c ⟨addZ c k b s.zs, s.m + 6⟩ (.bool true)) := by
  have hmf : ∀ (fn : Fn) (first cap : Array Value) (w : World), (Instr.makeFunc fn first cap).run Tryz.prog w = .ok (.func fn first cap) w := fun _ _ _ _ => rfl
  have H := Lib.hid (cx_put_add p c s k b w.heap.size l (w.alloc (.cells #[.pointer (some ⟨p.a, 0, none⟩)] 26)) (hG.alloc _) hC hk hb hn (Lib.hid (Blk.new w #[.pointer (some ⟨p.a, 0, none⟩)] 26)) (inG_new hG))
  clear hG hC hn
  go_enter Tryz.func115, Tryz.ntmps115
  go_wp2_with fail
  refine H.out.mono ?_
  rintro e w1 h
  obtain ⟨rfl, h2, h5⟩ := h.fromBox
  have H2 := Lib.hid h2
  have H5 := Lib.hid h5
  clear h h2 h5
  go_wp2_with fail
  go_ret
  exact ⟨rfl, H2.out, H5.out⟩
set_option maxHeartbeats 1000000 in
theorem cxTake_yes (p : Pl) (c : Cf) (s : St) (k b : Nat) (l : List Nat) (w : World) (hG : G w p c s) (hC : ChainAt c s.zs k (b :: l)) (hk : k < 2) :
    Calls Tryz.prog 120 #[.pointer (some ⟨p.a, 0, none⟩), .int .i64 (k : Int)] w (GP w p c ⟨takeZ c k b s.zs, s.m + takeD l⟩ (.tuple #[.int .i64 (b : Int), .bool true])) := by
  have HG := Lib.hid hG
  have hm := hG.may
  have hz := hG.len
  have hN := hm.n
  have hW := hm.w
  have hb := hC.lt b (by simp)
  have hlk := nodup_len hC.nd hC.lt
  have rl : nth s.zs (lnk c b) = fstI l := hC.ln.1
  have HL := Lib.hid rl
  obtain ⟨n, hnl⟩ : ∃ n : Nat, n = l.length := ⟨_, rfl⟩
  have r2 : nth s.zs (3 * k + 2) = (n : Int) + 1 := by rw [hnl]; rw [hC.r2]; simp
  have hnN : n + 1 ≤ c.N := by rw [hnl]; simpa using hlk
  have HR := Lib.hid (ch_regs p k w hk)
  have HR' := Lib.hid (fun w' => ch_regs p k w' hk)
  have HF := Lib.hid (ch_first p c s k b l w hG hC hk)
  obtain ⟨e0, e1, e2⟩ := regs_wraps hk
  have ew3 : IntKind.i64.wrap ((n : Int) + 1 - 1) = (n : Int) := by rw [Int.add_sub_cancel]; exact IntWalk.i64_in _ (by omega)
  have H5 : Hid (5 < c.W) := Lib.hid (by omega)
  cases l with
  | nil =>
    have rl0 : nth s.zs (lnk c b) = 0 := rl
    have HL0 := Lib.hid rl0
    have ew2 : IntKind.i64.wrap 0 = 0 := IntWalk.i64_in _ (by omega)
    have HE := Lib.hid (take_words0 hm hz hk hb rl0)
    rw [r2, Int.add_sub_cancel] at HE
    have R2 : Hid (nth (((s.zs.set (3 * k) 0).set (3 * k + 1) 0).set (lnk c b) 0) (3 * k + 2) = (n : Int) + 1) := Lib.hid (by
      rw [nth_set_ne (lnk_reg' (by omega)), nth_set_ne (by omega), nth_set_ne (by omega)]; exact r2)
    clear hG hC hz r2 hm rl rl0 HL hlk hnl
    go_enter Tryz.func120, Tryz.ntmps120
    have HT0 : Hid (Touch (inG p) w w) := Lib.hid (Touch.refl _ _)
    go_wp2_with fail
    refine (HF.out).mono ?_
    rintro e wm1 ⟨rfl, hG, hT⟩
    have HG1 := Lib.hid hG
    have HT1 : Hid (Touch (inG p) _ wm1) := Lib.hid (HT0.out.trans hT)
    clear hG hT
    go_wp2_with fail
    refine (HR'.out _).mono ?_
    rintro e wm0 ⟨rfl, rfl⟩
    go_wp2_with fail
    refine (wordW p c s.got b 5 _ _ _ _ HG1.out hb H5.out rfl rfl HL0.out).mono ?_
    rintro e wm2 ⟨rfl, hG, hT⟩
    have HG2 := Lib.hid hG
    have HT2 : Hid (Touch (inG p) _ wm2) := Lib.hid (HT1.out.trans hT)
    clear hG hT
    go_wp2_with fail
    refine (setregR p c _ (3 * k) _ _ _ HG2.out (by omega) (by first | rfl | exact e0) (by omega) (by omega)).mono ?_
    rintro e wm3 ⟨rfl, hG, hT⟩
    have HG3 := Lib.hid hG
    have HT3 : Hid (Touch (inG p) _ wm3) := Lib.hid (HT2.out.trans hT)
    clear hG hT
    go_wp2_with fail
    refine (setregR p c _ (3 * k + 1) _ _ _ HG3.out (by omega) (by first | rfl | exact e1) (by omega) (by omega)).mono ?_
    rintro e wm4 ⟨rfl, hG, hT⟩
    have HG4 := Lib.hid hG
    have HT4 : Hid (Touch (inG p) _ wm4) := Lib.hid (HT3.out.trans hT)
    clear hG hT
    go_wp2_with fail
    refine (setwordW p c _ b 5 _ _ 0 _ HG4.out hb H5.out rfl rfl (by omega) (by omega)).mono ?_
    rintro e wm5 ⟨rfl, hG, hT⟩
    have HG5 := Lib.hid hG
    have HT5 : Hid (Touch (inG p) _ wm5) := Lib.hid (HT4.out.trans hT)
    clear hG hT
    go_wp2_with fail
    refine (regR p c _ (3 * k + 2) _ _ _ HG5.out (by omega) (by first | rfl | exact e2) R2.out).mono ?_
    rintro e wm6 ⟨rfl, hG, hT⟩
    have HG6 := Lib.hid hG
    have HT6 : Hid (Touch (inG p) _ wm6) := Lib.hid (HT5.out.trans hT)
    clear hG hT
    go_wp2_with fail
    refine (setregR p c _ (3 * k + 2) _ _ _ HG6.out (by omega) (by first | rfl | exact e2) (by omega) (by omega)).mono ?_
    rintro e wm7 ⟨rfl, hG, hT⟩
    have HG7 := Lib.hid hG
    have HT7 : Hid (Touch (inG p) _ wm7) := Lib.hid (HT6.out.trans hT)
    clear hG hT
    go_wp2_with fail
    go_ret2
    exact ⟨rfl, HG7.out.to HE.out rfl, HT7.out⟩
  | cons a t =>
    have ha := hC.lt a (by simp)
    have rl1 : nth s.zs (lnk c b) = (a : Int) + 1 := rl
    have HL1 := Lib.hid rl1
    have hbn : ((a : Int) + 1 == 0) = false := bne_of' (by omega)
    have ew2 : IntKind.i64.wrap ((a : Int) + 1) = (a : Int) + 1 := IntWalk.i64_in _ (by omega)
    have HE := Lib.hid (take_words1 hm hz hk hb (by rw [rl1]; omega))
    rw [r2, rl1, Int.add_sub_cancel] at HE
    have R2 : Hid (nth ((s.zs.set (3 * k) ((a : Int) + 1)).set (lnk c b) 0) (3 * k + 2) = (n : Int) + 1) := Lib.hid (by
      rw [nth_set_ne (lnk_reg' (by omega)), nth_set_ne (by omega)]; exact r2)
    clear hG hC hz r2 hm rl rl1 HL hlk hnl
    go_enter Tryz.func120, Tryz.ntmps120
    have HT0 : Hid (Touch (inG p) w w) := Lib.hid (Touch.refl _ _)
    go_wp2_with fail
    refine (HF.out).mono ?_
    rintro e wm1 ⟨rfl, hG, hT⟩
    have HG1 := Lib.hid hG
    have HT1 : Hid (Touch (inG p) _ wm1) := Lib.hid (HT0.out.trans hT)
    clear hG hT
    go_wp2_with fail
    refine (HR'.out _).mono ?_
    rintro e wm0 ⟨rfl, rfl⟩
    go_wp2_with fail
    refine (wordW p c s.got b 5 _ _ _ _ HG1.out hb H5.out rfl rfl HL1.out).mono ?_
    rintro e wm2 ⟨rfl, hG, hT⟩
    have HG2 := Lib.hid hG
    have HT2 : Hid (Touch (inG p) _ wm2) := Lib.hid (HT1.out.trans hT)
    clear hG hT
    go_wp2_with fail
    refine (setregR p c _ (3 * k) _ _ _ HG2.out (by omega) (by first | rfl | exact e0) (by omega) (by omega)).mono ?_
    rintro e wm3 ⟨rfl, hG, hT⟩
    have HG3 := Lib.hid hG
    have HT3 : Hid (Touch (inG p) _ wm3) := Lib.hid (HT2.out.trans hT)
    clear hG hT
    go_wp2_with fail
    refine (setwordW p c _ b 5 _ _ 0 _ HG3.out hb H5.out rfl rfl (by omega) (by omega)).mono ?_
    rintro e wm4 ⟨rfl, hG, hT⟩
    have HG4 := Lib.hid hG
    have HT4 : Hid (Touch (inG p) _ wm4) := Lib.hid (HT3.out.trans hT)
    clear hG hT
    go_wp2_with fail
    refine (regR p c _ (3 * k + 2) _ _ _ HG4.out (by omega) (by first | rfl | exact e2) R2.out).mono ?_
    rintro e wm5 ⟨rfl, hG, hT⟩
    have HG5 := Lib.hid hG
    have HT5 : Hid (Touch (inG p) _ wm5) := Lib.hid (HT4.out.trans hT)
    clear hG hT
    go_wp2_with fail
    refine (setregR p c _ (3 * k + 2) _ _ _ HG5.out (by omega) (by first | rfl | exact e2) (by omega) (by omega)).mono ?_
    rintro e wm6 ⟨rfl, hG, hT⟩
    have HG6 := Lib.hid hG
    have HT6 : Hid (Touch (inG p) _ wm6) := Lib.hid (HT5.out.trans hT)
    clear hG hT
    go_wp2_with fail
    go_ret2
    exact ⟨rfl, HG6.out.to HE.out rfl, HT6.out⟩

theorem cxTake_no (p : Pl) (c : Cf) (s : St) (k : Int) (w : World) (hG : G w p c s) (h : NoTake c s.zs k) :
    Calls Tryz.prog 120 #[.pointer (some ⟨p.a, 0, none⟩), .int .i64 k] w (GP w p c ⟨s.zs, s.m + noD k⟩ (.tuple #[.int .i64 0, .bool false])) := by
  have H := Lib.hid (cx_first_no p c s k w hG h)
  clear hG h
  go_enter Tryz.func120, Tryz.ntmps120
  go_wp2_with fail
  refine H.out.mono ?_
  rintro e w1 ⟨rfl, h2, h5⟩
  have H2 := Lib.hid h2
  have H5 := Lib.hid h5
  clear h2 h5
  go_wp2_with fail
  go_ret2
  exact ⟨rfl, H2.out, H5.out⟩

theorem own_later {w w' : World} {base : Nat} {e : TypeId} {size : Nat} {v : Value} {n : Nat} {xs : List Value} (h : w.ownsRow base e size v n xs) (hb : Below w.heap.size w w') : w'.ownsRow base e size v n xs := by
  refine ⟨h.1, ?_⟩
  rcases h.2 with hn | ⟨g, cap, cur, rfl, hbg, hgg, rest⟩
  · exact .inl hn
  · exact .inr ⟨g, cap, cur, rfl, hbg, (hb.block g (lt_of_block hgg)).trans hgg, rest⟩
theorem Gath.later {w wr w' : World} {v : Value} {k : Nat} {zs : List Int} (h : Gath w v k zs wr) (hb : Below wr.heap.size wr w') : Gath w v k zs w' := ⟨own_later h.1 hb, below_step h.2 hb⟩
theorem Gath.size {w wr : World} {v : Value} {k : Nat} {zs : List Int} (h : Gath w v k zs wr) : w.heap.size ≤ wr.heap.size := h.2.size

/-- The name at a place of a row. -/
def nmI (l : List Nat) (k : Nat) : Int := fstI (l.drop k)
theorem nmI_at {l : List Nat} {k : Nat} (h : k < l.length) : nmI l k = (l[k] : Int) + 1 := by
  unfold nmI; rw [List.drop_eq_getElem_cons h]; rfl
theorem nmI_end {l : List Nat} {k : Nat} (h : l.length ≤ k) : nmI l k = 0 := by
  unfold nmI; rw [List.drop_eq_nil_of_le h]; rfl
theorem nmI_next {c : Cf} {zs : List Int} : ∀ {l : List Nat}, Links c zs l → ∀ k, (h : k < l.length) → nth zs (lnk c l[k]) = nmI l (k + 1)
  | [], _, k, h => absurd h (by simp)
  | b :: t, hl, 0, _ => hl.1
  | b :: t, hl, k + 1, h => nmI_next hl.2 k (by simpa using h)
theorem ints_take_snoc {l : List Nat} {k : Nat} (hk : k < l.length) : (ints l).take (k + 1) = (ints l).take k ++ [(l[k] : Int)] := by
  have := take_snoc (zs := ints l) (k := k) (by rw [ints_length]; exact hk)
  rw [this, ints_nth hk]

set_option maxHeartbeats 2000000 in
theorem chainList_yes (p : Pl) (c : Cf) (s : St) (k : Nat) (l : List Nat) (w : World) (hG : G w p c s) (hC : ChainAt c s.zs k l) (hk : k < 2) :
    Calls Tryz.prog 68 #[.pointer (some ⟨p.a, 0, none⟩), .int .i64 (k : Int)] w (NewInts w l) := by
  obtain ⟨i0, hi, hz0, hz1, hz2⟩ := info_parts infoInt
  have HG := Lib.hid hG
  have hm := hG.may
  have hN := hm.n
  have hlk := nodup_len hC.nd hC.lt
  have HR := Lib.hid (ch_regs p k w hk)
  obtain ⟨e0, e1, e2⟩ := regs_wraps hk
  have hW := hm.w
  have H5 : Hid (5 < c.W) := Lib.hid (by omega)
  have HC := Lib.hid hC
  have HNx := Lib.hid (nmI_next hC.ln)
  have hfd := cfield0 (c.N : Int) (c.W : Int) (c.R : Int) (c.K : Int)
  have H0 : Hid (nth s.zs (3 * k) = nmI l 0) := Lib.hid hC.r0
  clear hG hC hm
  go_enter Tryz.func68, Tryz.ntmps68
  have HT0 : Hid (Below w.heap.size w w) := Lib.hid (Below.refl _ _)
  go_wp2_with fail
  refine (HR.out).mono ?_
  rintro e wm0 ⟨rfl, rfl⟩
  go_wp2_with fail
  refine (seeregR p c s (3 * k) _ _ _ HG.out (by omega) (by first | rfl | exact e0) H0.out).mono ?_
  rintro e wm0 ⟨rfl, rfl⟩
  go_wp2_with fail
  refine (gconfC p c s _ HG.out).mono ?_
  rintro e wm1 ⟨rfl, hb⟩
  have HG1 := Lib.hid (HG.out.later hb)
  have HT1 : Hid (Below w.heap.size w wm1) := Lib.hid (below_step HT0.out hb)
  clear hb
  go_wp2_with fail
  go_loopw [7, 8, 26] (fun v nm i wr => ∃ j : Nat, j ≤ l.length ∧ i = .int .i64 j ∧ nm = .int .i64 (nmI l j) ∧ Gath w v j ((ints l).take j) wr) (fun _ _ i _ => c.N - (intOf i).toNat)
  case atStart =>
    refine ⟨0, Nat.zero_le _, rfl, rfl, ?_, HT1.out⟩
    exact World.ownsRow_nil _ _ _ _
  case round =>
    obtain ⟨j, hj, rfl, rfl, hga⟩ := hrel
    have HGa := Lib.hid hga
    have HG0 := HG
    have HGr : Hid (G wr p c s) := Lib.hid (HG0.out.later hga.2)
    clear hga
    by_cases hlt : j < l.length
    · have hjN : j < c.N := by omega
      have hb : l[j] < c.N := HC.out.lt _ (List.getElem_mem hlt)
      have HTk := Lib.hid (ints_take_snoc hlt)
      have HNm := Lib.hid (nmI_at hlt)
      have HN1 := Lib.hid (HNx.out j hlt)
      have hwf := HG0.out.wf (lnk c l[j])
      rw [HN1.out] at hwf
      generalize l[j] = b at *
      have i1 : IntKind.i64.wrap (nmI l (j + 1)) = nmI l (j + 1) := IntWalk.i64_in _ (by omega)
      go_wp2_with fail
      refine (ch_named p c s b _ _ HGr.out hb HNm.out).mono ?_
      rintro e w3 ⟨rfl, hb3⟩
      have HG3 := Lib.hid (HGr.out.later hb3)
      have HGa3 := Lib.hid (HGa.out.later hb3)
      have hown := HGa3.out.1
      have hsz := HGa3.out.2.size
      clear hb3
      go_wp2_with (at_builtin; refine wpList_append_own _ rfl _ _ 27 rfl w.heap.size 3 i0 (.int .i64 0) 1 8 Tryz.underlying27 hi hz0 hz1 hz2 rfl (by decide) _ _ _ rfl (hown.alloc _) ⟨w3.heap.size, 0, none⟩ 1 1 [.int .i64 (b : Int)] rfl rfl ?c1 ?c2 ?c3 ?c4 ?c5 ?c6)
      case c1 => exact cell_one_new w3 _ _
      case c2 => intro u hu; simp at hu; subst hu; rfl
      case c3 => unfold maxLen; omega
      case c4 => omega
      case c5 => simp; omega
      case c6 =>
        intro v' w4 hown' hgrow _
        have hbel1 : Below w.heap.size w w4 := (HGa3.out.2.alloc hsz _).grown hgrow (by simp; omega) (owns_block hown)
        have HG4 : Hid (Gath w v' (j + 1) ((ints l).take (j + 1)) w4) := Lib.hid (by
          refine ⟨?_, hbel1⟩
          rw [HTk.out]
          simpa using hown')
        have HGr4 : Hid (G w4 p c s) := Lib.hid (HG0.out.later hbel1)
        clear hown' hgrow hbel1 hown hsz
        go_wp2_with fail
        refine (seewordW p c s b 5 _ _ _ _ HGr4.out hb H5.out rfl rfl HN1.out).mono ?_
        rintro e w5 ⟨rfl, hd⟩
        have HG5 := Lib.hid (HG4.out.later hd.new)
        clear hd
        go_wp2_with fail
        go_roundw
        case rel => exact ⟨j + 1, by omega, by go_num, rfl, HG5.out⟩
        case measure => simp [intOf]; omega
    · have he : j = l.length := by omega
      have HNm : Hid (nmI l j = 0) := Lib.hid (nmI_end (by omega))
      rw [HNm.out]
      have HO : Hid (∀ w', Below wr.heap.size wr w' → NewInts w l (.returned u7) w') := Lib.hid (by
        intro w' hb
        have h1 := HGa.out.later hb
        rw [he, ← ints_length l, List.take_length] at h1
        exact (NewRow.mk rfl h1).ints rfl)
      clear he
      by_cases hjN : j < c.N
      · go_wp2_with fail
        refine (ch_named0 p c s _ HGr.out).mono ?_
        rintro e w3 ⟨rfl, hb3⟩
        have HO3 := Lib.hid (HO.out _ hb3)
        clear hb3
        go_wp2_with fail
        go_ret
        exact HO3.out
      · have HO3 := Lib.hid (HO.out _ (Below.refl _ _))
        go_wp2_with fail
        go_ret
        exact HO3.out
end Go.Proofs.YtljdbaddockfcaaGreat.Pk

/-
  Layer 9: how the law's ground stands beside a row: registers, links and tags.
-/
namespace Go.Proofs.YtljdbaddockfcaaGreat.Pk
open Go.RowKit
set_option linter.unusedVariables false
set_option linter.unusedSimpArgs false

/-- The ring stands as the row says, and all tags are those of the kinds. -/
structure LikeR (c : Cf) (ks : List Int) (l : List Nat) (zs : List Int) : Prop where
  ring : RingAt c zs l
  tags : ∀ b, b < c.N → nth zs (adr c b 0) = tagW (nth ks b) + if b ∈ l then 64 else 0
  idle : ∀ b, b < c.N → b ∉ l → nth zs (adr c b 6) = 0 ∧ nth zs (adr c b 7) = 0
theorem LikeR.kind {c : Cf} {ks : List Int} {l : List Nat} {zs : List Int} (h : LikeR c ks l zs) {b : Nat} (hb : b < c.N) : HeadT (nth zs (adr c b 0)) ↔ headK (nth ks b) = true := by
  rw [h.tags b hb, ← tag_head]
  unfold HeadT uK
  by_cases e : b ∈ l
  · rw [if_pos e]; omega
  · rw [if_neg e]; omega
theorem LikeR.add {c : Cf} {ks : List Int} {l : List Nat} {zs : List Int} {b : Nat} (h : LikeR c ks l zs) (hm : c.May) (hz : zs.length = c.size) (hb : b < c.N) (hn : b ∉ l) (hk : headK (nth ks b) = true) : LikeR c ks (l ++ [b]) (ringAddZ c b zs) := by
  refine ⟨h.ring.add hm hz hb hn ((h.kind hb).2 hk), fun x hx => ?_, fun x hx hxl => ?_⟩
  · rw [ringAdd_tag hm hz hx]
    by_cases e : x = b
    · subst e
      rw [if_pos rfl, h.tags x hx, if_neg hn, if_pos (by simp)]; omega
    · rw [if_neg e, h.tags x hx]
      simp [e]
  · have hxl' : x ∉ l ∧ x ≠ b := by simpa using hxl
    have ho : ∀ u, u = 6 ∨ u = 7 → RingOut c l b (adr c x u) := fun u hu => by
      have hu16 : u < 16 := by omega
      refine ⟨adr_reg' (by omega), adr_reg' (by omega), adr_reg' (by omega), fun e => ?_, fun y hy => ⟨fun e => ?_, fun e => ?_⟩⟩
      · have := (adr_i hm hu16 (by omega)).1 e; omega
      · have := (adr_i hm hu16 (by omega)).1 e
        rcases hy with rfl | hy
        · exact hxl'.2 this.1
        · exact hxl'.1 (by rw [this.1]; exact hy)
      · have := (adr_i hm hu16 (by omega)).1 e
        rcases hy with rfl | hy
        · exact hxl'.2 this.1
        · exact hxl'.1 (by rw [this.1]; exact hy)
    rw [ringAdd_out h.ring hz (ho 6 (Or.inl rfl)), ringAdd_out h.ring hz (ho 7 (Or.inr rfl))]
    exact h.idle x hx hxl'.1
theorem LikeR.cut {c : Cf} {ks : List Int} {l1 l2 : List Nat} {zs : List Int} {b : Nat} (h : LikeR c ks (l1 ++ b :: l2) zs) (hm : c.May) (hz : zs.length = c.size) : LikeR c ks (l1 ++ l2) (ringCutZ c b zs) := by
  have hb := h.ring.lt b (by simp)
  have hnd := h.ring.nd
  have hbn : b ∉ l1 ++ l2 := by
    rw [List.nodup_append] at hnd
    obtain ⟨n1, n2, n3⟩ := hnd
    obtain ⟨n4, n5⟩ := List.nodup_cons.1 n2
    intro hx
    rcases List.mem_append.1 hx with hx | hx
    · exact n3 b hx b (by simp) rfl
    · exact n4 hx
  refine ⟨h.ring.cut hm hz, fun x hx => ?_, fun x hx hxl => ?_⟩
  · rw [ringCut_tag hm hz hx]
    by_cases e : x = b
    · subst e
      rw [if_pos rfl, h.tags x hx, if_pos (by simp), if_neg hbn]; omega
    · rw [if_neg e, h.tags x hx]
      simp [e]
  · by_cases e : x = b
    · subst e; exact ringCut_own hm hz hx
    · have hxl' : x ∉ l1 ++ b :: l2 := by simp at hxl ⊢; exact ⟨hxl.1, e, hxl.2⟩
      have ho : ∀ u, u = 6 ∨ u = 7 → RingOut c (l1 ++ l2) b (adr c x u) := fun u hu => by
        have hu16 : u < 16 := by omega
        refine ⟨adr_reg' (by omega), adr_reg' (by omega), adr_reg' (by omega), fun e => ?_, fun y hy => ⟨fun e2 => ?_, fun e2 => ?_⟩⟩
        · have := (adr_i hm hu16 (by omega)).1 e; omega
        · have := (adr_i hm hu16 (by omega)).1 e2
          rcases hy with rfl | hy
          · exact e this.1
          · exact hxl (by rw [this.1]; exact hy)
        · have := (adr_i hm hu16 (by omega)).1 e2
          rcases hy with rfl | hy
          · exact e this.1
          · exact hxl (by rw [this.1]; exact hy)
      rw [ringCut_out h.ring hz (ho 6 (Or.inl rfl)), ringCut_out h.ring hz (ho 7 (Or.inr rfl))]
      exact h.idle x hx hxl'
end Go.Proofs.YtljdbaddockfcaaGreat.Pk
