/-
  What the functions of package pool return; the bundles.
-/
import Derived.Test.YtljdbaddockfcaaGreatChainFnEtc
import Derived.Test.YtljdbaddockfcaaGreatGroFnEtc
import Derived.Test.YtljdbaddockfcaaGreatTagFn
import Derived.Test.YtljdbaddockfcaaGreatPoolDoEtc
import Derived.Test.YtljdbaddockfcaaGreatGroFnEtc
namespace Go.Proofs.YtljdbaddockfcaaGreat.Pk
open Go.RowKit
set_option linter.unusedVariables false
set_option linter.unusedSimpArgs false

theorem pl_field0 (k c n s d g o : Int) (w : World) : (Instr.field 86 (.agg #[.int .i64 k, .int .i64 c, .int .i64 n, .int .i64 s, .int .i64 d, .int .i64 g, .int .i64 o]) 0).run Tryz.prog w = .ok (.int .i64 k) w := by kernel_rfl

/-! ### Open -/
/-- The words behind so many blocks that were added. -/
def openZ (c : Cf) : Nat → List Int
  | 0 => List.replicate c.size 0
  | k + 1 => addZ c 0 k (openZ c k)
theorem openZ_length (c : Cf) (k : Nat) : (openZ c k).length = c.size := by
  induction k with
  | zero => simp [openZ]
  | succ k ih => show (addZ c 0 k (openZ c k)).length = _; rw [addZ_length, ih]
theorem openZ_chain {c : Cf} (hm : c.May) : ∀ k, k ≤ c.N → ChainAt c (openZ c k) 0 (List.range k)
  | 0, _ => ⟨nth_rep _ _, nth_rep _ _, nth_rep _ _, by simp, by simp, trivial⟩
  | k + 1, h => by
    rw [List.range_succ]
    exact (openZ_chain hm k (by omega)).add hm (openZ_length c k) (by omega) (by omega) (by simp)
theorem openZ_out {c : Cf} (hm : c.May) : ∀ k, k ≤ c.N → ∀ i, ¬ i < 3 → (∀ b, b < c.N → i ≠ adr c b 5) → nth (openZ c k) i = 0
  | 0, _, i, _, _ => nth_rep _ _
  | k + 1, h, i, h3, h5 => by
    have ih := openZ_out hm k (by omega) i h3 h5
    have hl := openZ_length c k
    show nth (addZ c 0 k (openZ c k)) i = 0
    by_cases hi : i < c.size
    · rw [show nth (addZ c 0 k (openZ c k)) i = addN c 0 k (openZ c k) i from ofN_nth _ (by omega)]
      unfold addN
      rw [if_neg (by omega), if_neg (by omega), if_neg (by omega), if_neg (show ¬ i = lnk c k from h5 k (by omega)), if_neg, ih]
      rintro ⟨h1, h2⟩
      have hr := (openZ_chain hm k (by omega)).r1
      rw [hr] at h1 h2
      obtain ⟨b, hb, he⟩ := lstI_mem (List.range k) (fun e => h1 (by rw [e]; rfl))
      rw [he, show ((b : Int) + 1 - 1).toNat = b by omega] at h2
      exact h5 b (by have := List.mem_range.1 hb; omega) h2
    · exact nth_out (by rw [addZ_length]; omega)
theorem openZ_opened {c : Cf} (hm : c.May) : Opened c (openZ c c.N) := by
  have hw := hm.w
  refine ⟨⟨openZ_chain hm c.N (Nat.le_refl _), fun b hb => ?_⟩, openZ_out hm c.N (Nat.le_refl _)⟩
  refine openZ_out hm c.N (Nat.le_refl _) _ (by unfold adr; omega) (fun x hx e => ?_)
  have := (adr_inj (by omega) (by omega) e).2
  omega

set_option maxHeartbeats 1000000 in
theorem pl_open_yes (p : Pl) (c : Cf) (m : Nat) (w : World) (hG : G w p c ⟨List.replicate c.size 0, m⟩) :
    Calls Tryz.prog 71 #[.pointer (some ⟨p.a, 0, none⟩)] w (GP w p c ⟨openZ c c.N, m + (6 * c.N + 1)⟩ (.bool true)) := by
  have HG := Lib.hid hG
  have hm := hG.may
  have hN := hm.n
  have HM := Lib.hid hm
  have HC := Lib.hid (openZ_chain hm)
  have HF : Hid (NoTake c (List.replicate c.size 0) ((0 : Nat) : Int)) := Lib.hid (.inr ⟨0, rfl, by omega, openZ_chain hm 0 (by omega)⟩)
  have hfd := cfield0 (c.N : Int) (c.W : Int) (c.R : Int) (c.K : Int)
  clear hG hm
  go_enter Tryz.func71, Tryz.ntmps71
  have HT0 : Hid (Touch (inG p) w w) := Lib.hid (Touch.refl _ _)
  go_wp2_with fail
  refine (cx_first_no p c ⟨List.replicate c.size 0, m⟩ 0 _ HG.out HF.out).mono ?_
  rintro e wm1 ⟨rfl, hG, hT⟩
  have HG1 := Lib.hid hG
  have HT1 : Hid (Touch (inG p) _ wm1) := Lib.hid (HT0.out.trans hT)
  clear hG hT
  go_wp2_with fail
  refine (gconfC p c _ _ HG1.out).mono ?_
  rintro e wm2 ⟨rfl, hb⟩
  have HG2 := Lib.hid (HG1.out.later hb)
  have HT2 : Hid (Touch (inG p) _ wm2) := Lib.hid (HT1.out.trans (Touch.of_below hb))
  clear hb
  go_wp2_with fail
  go_loopw [17] (fun i wr => ∃ k : Nat, k ≤ c.N ∧ i = .int .i64 (k : Int) ∧ G wr p c ⟨openZ c k, m + (6 * k + 1)⟩ ∧ Touch (inG p) w wr) (fun i _ => c.N - (intOf i).toNat)
  case atStart => exact ⟨0, Nat.zero_le _, rfl, HG2.out, HT2.out⟩
  case round =>
    obtain ⟨k, hk, rfl, hG, hT⟩ := hrel
    have HG := Lib.hid hG
    have HT := Lib.hid hT
    clear hG hT
    have HT0 : Hid (Touch (inG p) wr wr) := Lib.hid (Touch.refl _ _)
    by_cases hlt : k < c.N
    · go_wp2_with fail
      refine (cxAdd_yes p c _ 0 k (List.range k) _ HG.out (HC.out k (by omega)) (by omega) hlt (by simp)).mono ?_
      rintro e wm1 ⟨rfl, hG, hT⟩
      have HG1 := Lib.hid hG
      have HT1 : Hid (Touch (inG p) _ wm1) := Lib.hid (HT.out.trans hT)
      clear hG hT
      go_wp2_with fail
      go_roundw
      case rel => exact ⟨k + 1, by omega, by go_num, HG1.out.to rfl (by show m + (6 * k + 1) + 6 = m + (6 * (k + 1) + 1); omega), HT1.out⟩
      case measure => simp [intOf]; omega
    · have e : k = c.N := by omega
      have HE : Hid (G wr p c ⟨openZ c c.N, m + (6 * c.N + 1)⟩) := Lib.hid (by rw [← e]; exact HG.out)
      clear e
      go_wp2_with fail
      go_ret
      exact ⟨rfl, HE.out, HT.out⟩
theorem pl_open_no (p : Pl) (c : Cf) (s : St) (b : Nat) (l : List Nat) (w : World) (hG : G w p c s) (hC : ChainAt c s.zs 0 (b :: l)) :
    Calls Tryz.prog 71 #[.pointer (some ⟨p.a, 0, none⟩)] w (GP w p c s.got (.bool false)) := by
  have H := Lib.hid (ch_first p c s 0 b l w hG hC (by omega))
  clear hG hC
  go_enter Tryz.func71, Tryz.ntmps71
  go_wp2_with fail
  refine H.out.mono ?_
  rintro e w1 ⟨rfl, hG, hT⟩
  have HG := Lib.hid hG
  have HT := Lib.hid hT
  clear hG hT
  go_wp2_with fail
  go_ret
  exact ⟨rfl, HG.out, HT.out⟩

/-! ### Take -/
theorem wiped_words {c : Cf} {zs : List Int} {b m : Nat} (hm : c.May) (hz : zs.length = c.size) (hb : b < c.N) : St.wiped ⟨takeZ c 0 b zs, m⟩ c (b : Int) = ⟨poolTakeZ c b zs, m + c.W⟩ := by
  have hw := hm.w
  have hA : wordA c (b : Int) 0 = some (adr c b 0) := by
    have := adr_word (c := c) (b := b) (v := 0) hb (by omega)
    exact this
  have hl : adr c b 0 + c.W ≤ (takeZ c 0 b zs).length := by
    rw [takeZ_length, hz]
    have := adr_lt (c := c) (b := b) (v := c.W - 1) hb (by omega)
    unfold adr at *; omega
  unfold St.wiped
  rw [hA]
  show St.wipe ⟨takeZ c 0 b zs, m⟩ (adr c b 0) c.W = _
  have e1 : (St.wipe ⟨takeZ c 0 b zs, m⟩ (adr c b 0) c.W).zs = poolTakeZ c b zs := by
    refine ext_nth (by rw [St.wipe_len, poolTakeZ_length]; exact takeZ_length _ _ _ _) (fun i hi => ?_)
    rw [St.wipe_len] at hi
    have hi2 : i < c.size := by rw [← hz, ← takeZ_length c 0 b zs]; exact hi
    rw [St.wipe_nth _ _ _ _ hl, poolTake_nth hz hi2]
    rfl
  have e2 : (St.wipe ⟨takeZ c 0 b zs, m⟩ (adr c b 0) c.W).m = m + c.W := St.wipe_m _ _ _
  cases hs : St.wipe ⟨takeZ c 0 b zs, m⟩ (adr c b 0) c.W with
  | mk z k => rw [hs] at e1 e2; simp only at e1 e2; rw [e1, e2]
theorem pl_take_yes (p : Pl) (c : Cf) (s : St) (b : Nat) (l : List Nat) (w : World) (hG : G w p c s) (hC : ChainAt c s.zs 0 (b :: l)) :
    Calls Tryz.prog 162 #[.pointer (some ⟨p.a, 0, none⟩)] w (GP w p c ⟨poolTakeZ c b s.zs, s.m + (takeD l + c.W)⟩ (.tuple #[.int .i64 (b : Int), .bool true])) := by
  have H := Lib.hid (cxTake_yes p c s 0 b l w hG hC (by omega))
  have HE := Lib.hid (wiped_words (m := s.m + takeD l) hG.may hG.len (hC.lt b (by simp)))
  have HG := Lib.hid hG
  clear hG hC
  go_enter Tryz.func162, Tryz.ntmps162
  have HT0 : Hid (Touch (inG p) w w) := Lib.hid (Touch.refl _ _)
  go_wp2_with fail
  refine (H.out).mono ?_
  rintro e wm1 ⟨rfl, hG, hT⟩
  have HG1 := Lib.hid hG
  have HT1 : Hid (Touch (inG p) _ wm1) := Lib.hid (HT0.out.trans hT)
  clear hG hT
  go_wp2_with fail
  refine (wipe_any p c _ (b : Int) _ HG1.out).mono ?_
  rw [HE.out]
  rintro e wm2 ⟨rfl, hG, hT⟩
  have HG2 := Lib.hid hG
  have HT2 : Hid (Touch (inG p) _ wm2) := Lib.hid (HT1.out.trans hT)
  clear hG hT
  go_wp2_with fail
  go_ret2
  exact ⟨rfl, HG2.out.to rfl (Nat.add_assoc _ _ _), HT2.out⟩
theorem pl_take_no (p : Pl) (c : Cf) (s : St) (w : World) (hG : G w p c s) (hC : ChainAt c s.zs 0 []) :
    Calls Tryz.prog 162 #[.pointer (some ⟨p.a, 0, none⟩)] w (GP w p c ⟨s.zs, s.m + 1⟩ (.tuple #[.int .i64 0, .bool false])) := by
  have H := Lib.hid (cxTake_no p c s 0 w hG (.inr ⟨0, rfl, by omega, hC⟩))
  clear hG hC
  go_enter Tryz.func162, Tryz.ntmps162
  go_wp2_with fail
  refine H.out.mono ?_
  rintro e w1 ⟨rfl, hG, hT⟩
  have HG := Lib.hid hG
  have HT := Lib.hid hT
  clear hG hT
  go_wp2_with fail
  go_ret2
  exact ⟨rfl, HG.out, HT.out⟩

/-! ### Give -/
theorem pl_give_yes (p : Pl) (c : Cf) (s : St) (b : Nat) (l : List Nat) (w : World) (hG : G w p c s) (hC : ChainAt c s.zs 0 l) (hb : b < c.N) (hn : b ∉ l) (hk : uK (nth s.zs (adr c b 0)) ≠ 0) :
    Calls Tryz.prog 166 #[.pointer (some ⟨p.a, 0, none⟩), .int .i64 (b : Int)] w (GP w p c ⟨poolGiveZ c b s.zs, s.m + (2 + pushD l)⟩ (.bool true)) := by
  have HG := Lib.hid hG
  have hW := hG.may.w
  have hbd := hG.wf (adr c b 0)
  have W0 : Hid (0 < c.W) := Lib.hid (by omega)
  have HC : Hid (ChainAt c (s.zs.set (adr c b 0) 0) 0 l) := Lib.hid (hC.only hG.may (by omega) hn (BlkOnly.set (by omega) 0))
  have hfd := pl_field0
  obtain ⟨t, ht⟩ : ∃ t, nth s.zs (adr c b 0) = t := ⟨_, rfl⟩
  rw [ht] at hbd hk
  have HT := Lib.hid ht
  have hkb : (uK t == 0) = false := bne_of' hk
  have HN := Lib.hid hn
  clear hG hC ht hk hn
  go_enter Tryz.func166, Tryz.ntmps166
  have HT0 : Hid (Touch (inG p) w w) := Lib.hid (Touch.refl _ _)
  go_wp2_with fail
  refine (wordW p c s b 0 _ _ t _ HG.out hb W0.out rfl rfl HT.out).mono ?_
  rintro e wm1 ⟨rfl, hG, hT⟩
  have HG1 := Lib.hid hG
  have HT1 : Hid (Touch (inG p) _ wm1) := Lib.hid (HT0.out.trans hT)
  clear hG hT
  go_wp2_with fail
  refine (tunpack_any t _ hbd.1 hbd.2).mono ?_
  rintro e wm2 ⟨rfl, hb⟩
  have HG2 := Lib.hid (HG1.out.later hb)
  have HT2 : Hid (Touch (inG p) _ wm2) := Lib.hid (HT1.out.trans (Touch.of_below hb))
  clear hb
  go_wp2_with fail
  refine (setwordW p c _ b 0 _ _ 0 _ HG2.out hb W0.out rfl rfl (by omega) (by omega)).mono ?_
  rintro e wm3 ⟨rfl, hG, hT⟩
  have HG3 := Lib.hid hG
  have HT3 : Hid (Touch (inG p) _ wm3) := Lib.hid (HT2.out.trans hT)
  clear hG hT
  go_wp2_with fail
  refine (cxPush_yes p c _ 0 b l _ HG3.out HC.out (by omega) hb HN.out).mono ?_
  rintro e wm4 ⟨rfl, hG, hT⟩
  have HG4 := Lib.hid hG
  have HT4 : Hid (Touch (inG p) _ wm4) := Lib.hid (HT3.out.trans hT)
  clear hG hT
  go_wp2_with fail
  go_ret
  exact ⟨rfl, HG4.out.to rfl (by show s.m + 1 + 1 + pushD l = _; omega), HT4.out⟩
theorem pl_give_no (p : Pl) (c : Cf) (s : St) (b t : Int) (w : World) (hG : G w p c s) (ht : tagI c s.zs b = t) (h : uK t = 0) :
    Calls Tryz.prog 166 #[.pointer (some ⟨p.a, 0, none⟩), .int .i64 b] w (GP w p c ⟨s.zs, s.m + askN (wordA c b 0)⟩ (.bool false)) := by
  have HG := Lib.hid hG
  have hbd := tagI_bd hG b
  rw [ht] at hbd
  have HT := Lib.hid ht
  have hfd := pl_field0
  have hkb : (uK t == 0) = true := by rw [h]; rfl
  clear hG ht
  go_enter Tryz.func166, Tryz.ntmps166
  have HT0 : Hid (Touch (inG p) w w) := Lib.hid (Touch.refl _ _)
  go_wp2_with fail
  refine (wordTag p c s b t _ HG.out HT.out).mono ?_
  rintro e wm1 ⟨rfl, hG, hT⟩
  have HG1 := Lib.hid hG
  have HT1 : Hid (Touch (inG p) _ wm1) := Lib.hid (HT0.out.trans hT)
  clear hG hT
  go_wp2_with fail
  refine (tunpack_any t _ hbd.1 hbd.2).mono ?_
  rintro e wm2 ⟨rfl, hb⟩
  have HG2 := Lib.hid (HG1.out.later hb)
  have HT2 : Hid (Touch (inG p) _ wm2) := Lib.hid (HT1.out.trans (Touch.of_below hb))
  clear hb
  go_wp2_with fail
  go_ret
  exact ⟨rfl, HG2.out, HT2.out⟩
theorem nogive_tag {c : Cf} {zs : List Int} {b : Int} (hm : c.May) (h : NoGive c zs b) : uK (tagI c zs b) = 0 := by
  rcases h with h | ⟨k, rfl, hk, h⟩
  · rw [tagI_out h]; decide
  · rw [tagI_in hm hk]; exact h

/-! ### Len, List -/
theorem pl_len (p : Pl) (c : Cf) (s : St) (l : List Nat) (w : World) (hG : G w p c s) (hC : ChainAt c s.zs 0 l) :
    Calls Tryz.prog 20 #[.pointer (some ⟨p.a, 0, none⟩)] w (GP w p c s.got (.int .i64 (l.length : Int))) := by
  have H := Lib.hid (cx_len p c s 0 l w hG hC (by omega))
  clear hG hC
  go_enter Tryz.func20, Tryz.ntmps20
  go_wp2_with fail
  refine H.out.mono ?_
  rintro e w1 ⟨rfl, hG, hT⟩
  have HG := Lib.hid hG
  have HT := Lib.hid hT
  clear hG hT
  go_wp2_with fail
  go_ret
  exact ⟨rfl, HG.out, HT.out⟩
theorem pl_list (p : Pl) (c : Cf) (s : St) (l : List Nat) (w : World) (hG : G w p c s) (hC : ChainAt c s.zs 0 l) :
    Calls Tryz.prog 87 #[.pointer (some ⟨p.a, 0, none⟩)] w (NewNats l w) := by
  have H := Lib.hid (chainList_yes p c s 0 l w hG hC (by omega))
  clear hG hC
  go_enter Tryz.func87, Tryz.ntmps87
  go_wp2_with fail
  refine H.out.mono ?_
  rintro e w1 ⟨a, cap, rfl, h2, h3, h4⟩
  have H2 := Lib.hid h2
  have H3 := Lib.hid h3
  have H4 := Lib.hid h4
  clear h2 h3 h4
  go_wp2_with fail
  go_ret
  exact ⟨a, cap, rfl, H2.out, H3.out, H4.out⟩

theorem takeD_le (l : List Nat) : takeD l ≤ 7 := by unfold takeD; split <;> omega
theorem pushD_le (l : List Nat) : pushD l ≤ 6 := by unfold pushD; split <;> omega
theorem poolFns : PoolFns where
  open_yes := fun c hm => ⟨openZ c c.N, ⟨6 * c.N + 1, by omega, fun p m w hG => pl_open_yes p c m w hG⟩, openZ_opened hm⟩
  open_no := fun c zs b l hz hC => ⟨1, by omega, fun p m w hG => pl_open_no p c ⟨zs, m⟩ b l w hG hC⟩
  take_yes := fun c zs b l hz hC => ⟨takeD l + c.W, by have := takeD_le l; omega, fun p m w hG => pl_take_yes p c ⟨zs, m⟩ b l w hG hC⟩
  take_no := fun c zs hz hC => ⟨1, by omega, fun p m w hG => pl_take_no p c ⟨zs, m⟩ w hG hC⟩
  give_yes := fun c zs b l hz hC hb hn hk => ⟨2 + pushD l, by have := pushD_le l; omega, fun p m w hG => pl_give_yes p c ⟨zs, m⟩ b l w hG hC hb hn hk⟩
  give_no := fun c zs b hz h => ⟨askN (wordA c b 0), by have := askN_le (wordA c b 0); omega, fun p m w hG => pl_give_no p c ⟨zs, m⟩ b _ w hG rfl (nogive_tag hz.may h)⟩
  len := fun c zs l hz hC => ⟨1, by omega, fun p m w hG => pl_len p c ⟨zs, m⟩ l w hG hC⟩
  list := fun c zs l hz hC p m w hG => pl_list p c ⟨zs, m⟩ l w hG hC

/-! ### Of a nil ground -/
end Go.Proofs.YtljdbaddockfcaaGreat.Pk
