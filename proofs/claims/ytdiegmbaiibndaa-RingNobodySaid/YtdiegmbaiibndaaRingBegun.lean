/-
  Layer 9: the law's act, whatever it is; the chapter's example (of a package ring that does what it must).
-/
import Derived.Test.YtdiegmbaiibndaaRingDo2
namespace Go.Proofs.Ytdiegmbaiibndaa.Pk
open Go.RowKit
set_option linter.unusedVariables false
set_option linter.unusedSimpArgs false

theorem rdo_any (F : RingFns) (p : Pl) (n : Nat) (s : St) (ks : List Int) (l : List Nat) (ak a : Option Addr) (ck cap : Nat) (kind b : Int) (w : World) (hA : AtR w p n s ks l ak a) :
    Calls Try.prog 8 #[.pointer (some ⟨p.a, 0, none⟩), .slice ak n ck, .slice a l.length cap, .agg #[.int .u8 kind, .int .i64 b]] w (DoR w p (cfR n) ks l) := by
  by_cases k0 : kind = 0
  · subst k0
    cases hh : headB ks b with
    | false =>
      refine rdo_add_nof F p n s ks l ak a ck cap b ?_ hh w hA
      by_cases hb : bel b ks.length = true
      · obtain ⟨k, rfl, hk⟩ := bel_nat hb
        refine Or.inr ⟨k, rfl, by rw [← hA.hn] at hk; exact hk, Or.inl ?_⟩
        rw [hA.like.kind (show k < (cfR n).N by rw [← hA.hn] at hk; exact hk)]
        unfold headB at hh
        rw [hb] at hh
        simpa using hh
      · refine Or.inl ?_
        have h2 := bel_no (show bel b ks.length = false by simpa using hb)
        have e : (cfR n).N = ks.length := hA.hn
        omega
    | true =>
      have h1 : bel b ks.length = true ∧ headK (nth ks b.toNat) = true := by unfold headB at hh; simpa using hh
      obtain ⟨k, rfl, hk⟩ := bel_nat h1.1
      have hk' : k < n := by rw [hA.hn]; exact hk
      cases hi : hasB (ints l) (k : Int) with
      | false =>
        refine rdo_add_yes F p n s ks l ak a ck cap k hk' (by simpa using h1.2) ?_ w hA
        intro hm
        rw [ints_has, decide_eq_true hm] at hi
        cases hi
      | true =>
        refine rdo_add_not F p n s ks l ak a ck cap (k : Int) ?_ hh hi w hA
        obtain ⟨k', e, hm⟩ := hasB_nat hi
        obtain rfl : k = k' := by omega
        exact Or.inr ⟨k, rfl, hk', Or.inr hm⟩
  · by_cases k1 : kind = 1
    · subst k1
      cases hi : hasB (ints l) b with
      | false => exact rdo_cut_no F p n s ks l ak a ck cap b hi w hA
      | true =>
        obtain ⟨k, rfl, hm⟩ := hasB_nat hi
        obtain ⟨l1, l2, hs⟩ := split_of hm
        exact rdo_cut_yes F p n s ks l ak a ck cap k l1 l2 hs w hA
    · by_cases k2 : kind = 2
      · subst k2
        cases l with
        | nil => exact rdo_take_no F p n s ks [] ak a ck cap b rfl w hA
        | cons x t => exact rdo_take_yes F p n s ks ak a ck cap b x t w hA
      · exact rdo_look F p n s ks l ak a ck cap kind b (neq_b k0) (neq_b k1) (neq_b k2) w hA

set_option maxRecDepth 100000 in
set_option maxHeartbeats 1000000 in
theorem begun9_any (F : RingFns) (w : World) : Calls Try.prog 6 #[] w fun e w' => e = .returned (.bool true) ∧ Below w.heap.size w w' := by
  have HKs : Hid (Kinds [1, 1, 1, 1, 1, 2]) := Lib.hid (Kinds.of (by simp))
  obtain ⟨ks, hks⟩ : ∃ ks : List Int, ks = [1, 1, 1, 1, 1, 2] := ⟨_, rfl⟩
  have HR : Hid (Row (w.alloc (.cells #[.int .u8 1, .int .u8 1, .int .u8 1, .int .u8 1, .int .u8 1, .int .u8 2] 5)) .u8 (some ⟨w.heap.size, 0, none⟩) [1, 1, 1, 1, 1, 2]) := Lib.hid (Row.lit w .u8 [1, 1, 1, 1, 1, 2] 5)
  rw [← hks] at HKs HR
  have HN : Hid (6 = ks.length) := Lib.hid (by rw [hks]; rfl)
  have HH : Hid (headK (nth ks 3) = true ∧ headK (nth ks 1) = true ∧ headK (nth ks 5) = true) := Lib.hid (by rw [hks]; decide)
  clear hks
  go_enter Try.func6, Try.ntmps6
  go_wp2_with fail
  refine (made_any _ 6 6 ks _ HR.out HN.out HKs.out (by decide) (by decide)).mono ?_
  rintro e w1 ⟨p, s, rfl, hG, hM, hp, hb⟩
  have HG := Lib.hid hG
  have HP : Hid (∀ k, inG p k → w.heap.size ≤ k) := Lib.hid (fun k hk => by have := hp k (Or.inr hk); simp at this; omega)
  have HB := Lib.hid (below_step (below_new w _) hb)
  have hm := hG.may
  have hz := hG.len
  have L0 := Made.like (c := cfR 6) hM hm
  have L1 := L0.add hm hz (b := 3) (by decide) (by simp) HH.out.1
  have L2 := L1.add hm (by rw [ringAddZ_length]; exact hz) (b := 1) (by decide) (by simp) HH.out.2.1
  have L3 := L2.add hm (by rw [ringAddZ_length, ringAddZ_length]; exact hz) (b := 5) (by decide) (by simp) HH.out.2.2
  have L4 := LikeR.cut (l1 := [3]) (l2 := [5]) L3 hm (by rw [ringAddZ_length, ringAddZ_length, ringAddZ_length]; exact hz)
  have k7 := (L4.links (i := 0) (by decide)).2
  have k6 := (L4.links (i := 1) (by decide)).1
  have HL0 := Lib.hid L0
  have HL1 := Lib.hid L1
  have HL2 := Lib.hid L2
  have HL3 := Lib.hid L3
  have HL4 := Lib.hid L4
  have K7 := Lib.hid (k7.trans (show _ = (6 : Int) by decide))
  have K6 := Lib.hid (k6.trans (show _ = (4 : Int) by decide))
  clear hG hM hp hb hm hz L0 L1 L2 L3 L4 k7 k6
  generalize hZ1 : ringAddZ (cfR 6) 3 s.zs = Z1 at *
  generalize hZ2 : ringAddZ (cfR 6) 1 Z1 = Z2 at *
  generalize hZ3 : ringAddZ (cfR 6) 5 Z2 = Z3 at *
  generalize hZ4 : ringCutZ (cfR 6) 1 Z3 = Z4 at *
  have A1 := Lib.hid (fun h => F.add_yes (cfR 6) s.zs [] 3 h HL0.out.ring (by decide) (by simp) ((HL0.out.kind (by decide)).2 HH.out.1))
  have A2 := Lib.hid (fun h => F.add_yes (cfR 6) Z1 [3] 1 h HL1.out.ring (by decide) (by simp) ((HL1.out.kind (by decide)).2 HH.out.2.1))
  have A3 := Lib.hid (fun h => F.add_yes (cfR 6) Z2 [3, 1] 5 h HL2.out.ring (by decide) (by simp) ((HL2.out.kind (by decide)).2 HH.out.2.2))
  have A4 := Lib.hid (fun h => F.cut_yes (cfR 6) Z3 [3, 1, 5] 1 h HL3.out.ring (by simp))
  have A5 := Lib.hid (fun h => F.list (cfR 6) Z4 [3, 5] h HL4.out.ring)
  rw [hZ1] at A1
  rw [hZ2] at A2
  rw [hZ3] at A3
  rw [hZ4] at A4
  clear hZ1 hZ2 hZ3 hZ4
  obtain ⟨d1, _, H1⟩ := A1.out HG.out.wz
  have D1 := Lib.hid (fun m w hG => H1 p m w hG)
  clear H1
  have HT0 : Hid (Touch (inG p) w1 w1) := Lib.hid (Touch.refl _ _)
  go_wp2_with fail
  refine (D1.out s.m _ HG.out).mono ?_
  rintro e wm1 ⟨rfl, hG, hT⟩
  have HG1 := Lib.hid hG
  have HT1 : Hid (Touch (inG p) _ wm1) := Lib.hid (HT0.out.trans hT)
  clear hG hT
  obtain ⟨d2, _, H2⟩ := A2.out HG1.out.wz
  have D2 := Lib.hid (fun m w hG => H2 p m w hG)
  clear H2
  go_wp2_with fail
  refine (D2.out _ _ HG1.out).mono ?_
  rintro e wm2 ⟨rfl, hG, hT⟩
  have HG2 := Lib.hid hG
  have HT2 : Hid (Touch (inG p) _ wm2) := Lib.hid (HT1.out.trans hT)
  clear hG hT
  obtain ⟨d3, _, H3⟩ := A3.out HG2.out.wz
  have D3 := Lib.hid (fun m w hG => H3 p m w hG)
  clear H3
  go_wp2_with fail
  refine (D3.out _ _ HG2.out).mono ?_
  rintro e wm3 ⟨rfl, hG, hT⟩
  have HG3 := Lib.hid hG
  have HT3 : Hid (Touch (inG p) _ wm3) := Lib.hid (HT2.out.trans hT)
  clear hG hT
  obtain ⟨d4, _, H4⟩ := A4.out HG3.out.wz
  have D4 := Lib.hid (fun m w hG => H4 p m w hG)
  clear H4
  go_wp2_with fail
  refine (D4.out _ _ HG3.out).mono ?_
  rintro e wm4 ⟨rfl, hG, hT⟩
  have HG4 := Lib.hid hG
  have HT4 : Hid (Touch (inG p) _ wm4) := Lib.hid (HT3.out.trans hT)
  clear hG hT
  have HL := Lib.hid (fun m w hG => A5.out HG4.out.wz p m w hG)
  go_wp2_with fail
  refine (HL.out _ _ HG4.out).mono ?_
  rintro e wm5 ⟨a5, cap5, rfl, hr5, hf5, hb⟩
  have HG5 := Lib.hid (HG4.out.later hb)
  have HT5 : Hid (Touch (inG p) _ wm5) := Lib.hid (HT4.out.trans (Touch.of_below hb))
  clear hb
  have HR5 := Lib.hid hr5
  clear hr5 hf5
  have HBe := Lib.hid (HB.out.trans (HT5.out.below (B := w.heap.size) HP.out HB.out.size))
  go_wp2_with fail
  refine (rcInts_same a5 _ cap5 2 [3, 5] _ (HR5.out.alloc _) (Row.lit wm5 .i64 [3, 5] 3) (by decide)).mono ?_
  rintro e w7 ⟨rfl, hd⟩
  have HG7 := Lib.hid ((HG5.out.alloc _).drw hd)
  have HB7 := Lib.hid (below_step (HBe.out.alloc HBe.out.size _) hd.new)
  clear hd
  go_wp2_with fail
  refine (seewordW p (cfR 6) _ 3 7 _ _ 6 _ HG7.out (by decide) (by decide) rfl rfl K7.out).mono ?_
  rintro e w8 ⟨rfl, hd⟩
  have HG8 := Lib.hid (HG7.out.drw hd)
  have HB8 := Lib.hid (below_step HB7.out hd.new)
  clear hd
  go_wp2_with fail
  refine (seewordW p (cfR 6) _ 5 6 _ _ 4 _ HG8.out (by decide) (by decide) rfl rfl K6.out).mono ?_
  rintro e w9 ⟨rfl, hd⟩
  have HB9 := Lib.hid (below_step HB8.out hd.new)
  clear hd
  go_wp2_with fail
  go_ret
  exact ⟨rfl, HB9.out⟩

end Go.Proofs.Ytdiegmbaiibndaa.Pk
