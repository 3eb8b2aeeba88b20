/-
  What the functions of package ring return: Add, Cut, Take, Len, Has, List; the bundle.
-/
import Derived.Test.YtmcgplblbdjaiaaGreatRingFnEtc
import Derived.Test.YtmcgplblbdjaiaaGreatGroFnEtc
import Derived.Deep.AppendLies
import Derived.Maps.AppendAt
namespace Go.Proofs.YtmcgplblbdjaiaaGreat.Pk
open Go.RowKit
set_option linter.unusedVariables false
set_option linter.unusedSimpArgs false

section
variable {c : Cf} {zs : List Int} {b : Nat}
theorem ring_add_words (hm : c.May) (hz : zs.length = c.size) (hb : b < c.N) (hq : Nm c (nth zs 8)) :
    ((joinZ c ((b : Int) + 1) 0 (joinZ c (nth zs 8) ((b : Int) + 1) zs)).set (adr c b 0) (nth zs (adr c b 0) + 64)).set 9 (nth zs 9 + 1) = ringAddZ c b zs := by
  have hs := hm.size
  have hl := adr_le hm hb (u := 0) (by omega)
  have hy : Nm c ((b : Int) + 1) := .inr ⟨b, hb, rfl⟩
  have ea : ((b : Int) + 1 - 1).toNat = b := by omega
  have eb : ¬ ((b : Int) + 1 = 0) := by omega
  refine eq_ofN (by simp [joinZ_length]) (fun i hi => ?_)
  rw [nth_set (by simp [joinZ_length]; omega), nth_set (by simp [joinZ_length]; omega)]
  unfold joinZ
  rw [joinY_nth hm (by rw [joinX_length, joinY_length, joinX_length]; exact hz) (.inl rfl), joinX_nth hm (by rw [joinY_length, joinX_length]; exact hz) hy, joinY_nth hm (by rw [joinX_length]; exact hz) hy, joinX_nth hm hz hq]
  unfold ringAddN
  simp only [ea, eb, if_true, if_false]
  have hR : ∀ r x u : Nat, r < 24 → (r = adr c x u) = False := fun r x u h => eq_false (adr_reg h)
  have hR' : ∀ r x u : Nat, r < 24 → (adr c x u = r) = False := fun r x u h => eq_false (adr_reg' h)
  by_cases e9 : i = 9
  · subst e9; simp
  by_cases e7 : i = 7
  · subst e7; simp [hR]
  by_cases e8 : i = 8
  · subst e8; simp [hR]
  by_cases a0 : i = adr c b 0
  · subst a0; simp [hR']
  by_cases a6 : i = adr c b 6
  · subst a6; simp [hR', adr_i hm]
  by_cases a7 : i = adr c b 7
  · subst a7; simp [hR', adr_i hm]
  by_cases q : nth zs 8 = 0
  · simp [e9, e7, e8, a0, a6, a7, q]
  · simp [e9, e7, e8, a0, a6, a7, q]
end

set_option maxHeartbeats 1000000 in
theorem rg_add_no (p : Pl) (c : Cf) (s : St) (b t : Int) (w : World) (hG : G w p c s) (ht : tagI c s.zs b = t) (h : headT_ t = false ∨ headT_ t = true ∧ markB t = true) :
    Calls Tryz.prog 70 #[.pointer (some ⟨p.a, 0, none⟩), .int .i64 b] w (GP w p c ⟨s.zs, s.m + askN (wordA c b 0)⟩ (.bool false)) := by
  have HG := Lib.hid hG
  have hbd := tagI_bd hG b
  rw [ht] at hbd
  have HT := Lib.hid ht
  clear hG ht
  rcases h with h | ⟨h, hk⟩
  · have H1 := Lib.hid h
    clear h
    go_enter Tryz.func70, Tryz.ntmps70
    have HT0 : Hid (Touch (inG p) w w) := Lib.hid (Touch.refl _ _)
    go_wp2_with fail
    refine (wordTag p c s b t _ HG.out HT.out).mono ?_
    rintro e wm1 ⟨rfl, hG, hT⟩
    have HG1 := Lib.hid hG
    have HT1 : Hid (Touch (inG p) _ wm1) := Lib.hid (HT0.out.trans hT)
    clear hG hT
    go_wp2_with fail
    refine (rg_isHead t _ hbd.1 hbd.2).mono ?_
    rw [H1.out]
    rintro e wm2 ⟨rfl, hb⟩
    have HG2 := Lib.hid (HG1.out.later hb)
    have HT2 : Hid (Touch (inG p) _ wm2) := Lib.hid (HT1.out.trans (Touch.of_below hb))
    clear hb
    go_wp2_with fail
    go_ret
    exact ⟨rfl, HG2.out, HT2.out⟩
  · have H1 := Lib.hid h
    have H2 := Lib.hid hk
    clear h hk
    go_enter Tryz.func70, Tryz.ntmps70
    have HT0 : Hid (Touch (inG p) w w) := Lib.hid (Touch.refl _ _)
    go_wp2_with fail
    refine (wordTag p c s b t _ HG.out HT.out).mono ?_
    rintro e wm1 ⟨rfl, hG, hT⟩
    have HG1 := Lib.hid hG
    have HT1 : Hid (Touch (inG p) _ wm1) := Lib.hid (HT0.out.trans hT)
    clear hG hT
    go_wp2_with fail
    refine (rg_isHead t _ hbd.1 hbd.2).mono ?_
    rw [H1.out]
    rintro e wm2 ⟨rfl, hb⟩
    have HG2 := Lib.hid (HG1.out.later hb)
    have HT2 : Hid (Touch (inG p) _ wm2) := Lib.hid (HT1.out.trans (Touch.of_below hb))
    clear hb
    go_wp2_with fail
    refine (rg_isMarked t _ hbd.1 hbd.2).mono ?_
    rw [H2.out]
    rintro e wm3 ⟨rfl, hb⟩
    have HG3 := Lib.hid (HG2.out.later hb)
    have HT3 : Hid (Touch (inG p) _ wm3) := Lib.hid (HT2.out.trans (Touch.of_below hb))
    clear hb
    go_wp2_with fail
    go_ret
    exact ⟨rfl, HG3.out, HT3.out⟩
theorem rg_has (p : Pl) (c : Cf) (s : St) (b t : Int) (w : World) (hG : G w p c s) (ht : tagI c s.zs b = t) :
    Calls Tryz.prog 23 #[.pointer (some ⟨p.a, 0, none⟩), .int .i64 b] w (GP w p c ⟨s.zs, s.m + askN (wordA c b 0)⟩ (.bool (headT_ t && markB t))) := by
  have HG := Lib.hid hG
  have hbd := tagI_bd hG b
  rw [ht] at hbd
  have HT := Lib.hid ht
  clear hG ht
  cases h : headT_ t with
  | false =>
    have H1 := Lib.hid h
    clear h
    go_enter Tryz.func23, Tryz.ntmps23
    have HT0 : Hid (Touch (inG p) w w) := Lib.hid (Touch.refl _ _)
    go_wp2_with fail
    refine (wordTag p c s b t _ HG.out HT.out).mono ?_
    rintro e wm1 ⟨rfl, hG, hT⟩
    have HG1 := Lib.hid hG
    have HT1 : Hid (Touch (inG p) _ wm1) := Lib.hid (HT0.out.trans hT)
    clear hG hT
    go_wp2_with fail
    refine (rg_isHead t _ hbd.1 hbd.2).mono ?_
    rw [H1.out]
    rintro e wm2 ⟨rfl, hb⟩
    have HG2 := Lib.hid (HG1.out.later hb)
    have HT2 : Hid (Touch (inG p) _ wm2) := Lib.hid (HT1.out.trans (Touch.of_below hb))
    clear hb
    go_wp2_with fail
    go_ret
    exact ⟨rfl, HG2.out, HT2.out⟩
  | true =>
    have H1 := Lib.hid h
    clear h
    go_enter Tryz.func23, Tryz.ntmps23
    have HT0 : Hid (Touch (inG p) w w) := Lib.hid (Touch.refl _ _)
    go_wp2_with fail
    refine (wordTag p c s b t _ HG.out HT.out).mono ?_
    rintro e wm1 ⟨rfl, hG, hT⟩
    have HG1 := Lib.hid hG
    have HT1 : Hid (Touch (inG p) _ wm1) := Lib.hid (HT0.out.trans hT)
    clear hG hT
    go_wp2_with fail
    refine (rg_isHead t _ hbd.1 hbd.2).mono ?_
    rw [H1.out]
    rintro e wm2 ⟨rfl, hb⟩
    have HG2 := Lib.hid (HG1.out.later hb)
    have HT2 : Hid (Touch (inG p) _ wm2) := Lib.hid (HT1.out.trans (Touch.of_below hb))
    clear hb
    go_wp2_with fail
    refine (rg_isMarked t _ hbd.1 hbd.2).mono ?_
    rintro e wm3 ⟨rfl, hb⟩
    have HG3 := Lib.hid (HG2.out.later hb)
    have HT3 : Hid (Touch (inG p) _ wm3) := Lib.hid (HT2.out.trans (Touch.of_below hb))
    clear hb
    go_wp2_with fail
    go_ret
    exact ⟨ret_bool (by simp), HG3.out, HT3.out⟩
theorem rg_len (p : Pl) (c : Cf) (s : St) (n : Int) (w : World) (hG : G w p c s) (hn : nth s.zs 9 = n) :
    Calls Tryz.prog 24 #[.pointer (some ⟨p.a, 0, none⟩)] w (GP w p c s.got (.int .i64 n)) := by
  have HG := Lib.hid hG
  have HN := Lib.hid hn
  clear hG hn
  go_enter Tryz.func24, Tryz.ntmps24
  have HT0 : Hid (Touch (inG p) w w) := Lib.hid (Touch.refl _ _)
  go_wp2_with fail
  refine (regR p c s 9 _ n _ HG.out (by omega) rfl HN.out).mono ?_
  rintro e wm1 ⟨rfl, hG, hT⟩
  have HG1 := Lib.hid hG
  have HT1 : Hid (Touch (inG p) _ wm1) := Lib.hid (HT0.out.trans hT)
  clear hG hT
  go_wp2_with fail
  go_ret
  exact ⟨rfl, HG1.out, HT1.out⟩

set_option maxHeartbeats 1000000 in
theorem rg_add_yes (p : Pl) (c : Cf) (s : St) (b : Nat) (l : List Nat) (w : World) (hG : G w p c s) (hR : RingAt c s.zs l) (hb : b < c.N) (hn : b ∉ l) (hk : HeadT (nth s.zs (adr c b 0))) :
    Calls Tryz.prog 70 #[.pointer (some ⟨p.a, 0, none⟩), .int .i64 (b : Int)] w (GP w p c ⟨ringAddZ c b s.zs, s.m + 9⟩ (.bool true)) := by
  have HG := Lib.hid hG
  have hm := hG.may
  have hz := hG.len
  have hN := hm.n
  have hW := hm.w
  have hlk := nodup_len hR.nd hR.lt
  obtain ⟨n, hnl⟩ : ∃ n : Nat, n = l.length := ⟨_, rfl⟩
  have hnN : n ≤ c.N := by rw [hnl]; exact hlk
  have r9 : nth s.zs 9 = (n : Int) := by rw [hnl]; exact hR.r9
  have hg0 := hR.mk0 hb hn
  have hbd := (hR.tok b hb).bd
  have HE := ring_add_words hm hz hb (by rw [hR.r8]; exact Nm.lst hR.lt)
  rw [r9] at HE
  have Hq : Hid (Nm c (nth s.zs 8)) := Lib.hid (by rw [hR.r8]; exact Nm.lst hR.lt)
  have Hy : Hid (Nm c ((b : Int) + 1)) := Lib.hid (.inr ⟨b, hb, rfl⟩)
  obtain ⟨t, ht⟩ : ∃ t, t = nth s.zs (adr c b 0) := ⟨_, rfl⟩
  rw [← ht] at HE hg0 hbd hk
  obtain ⟨q, hq⟩ : ∃ q, q = nth s.zs 8 := ⟨_, rfl⟩
  rw [← hq] at HE Hq
  have H1 := Lib.hid (headT_yes hk)
  have H2 : Hid (markB t = false) := Lib.hid (decide_eq_false (by omega))
  have eor := or_64 (by omega) (by omega) hg0
  have ew1 : IntKind.i64.wrap ((b : Int) + 1) = (b : Int) + 1 := IntWalk.i64_in _ (by omega)
  have ew3 : IntKind.i64.wrap ((n : Int) + 1) = (n : Int) + 1 := IntWalk.i64_in _ (by omega)
  have R9 : Hid (nth ((joinZ c ((b : Int) + 1) 0 (joinZ c q ((b : Int) + 1) s.zs)).set (adr c b 0) (t + 64)) 9 = (n : Int)) := Lib.hid (by
    rw [nth_set_ne (adr_reg' (by omega)), joinZ_reg hm (by rw [joinZ_length]; exact hz) Hy.out (.inl rfl) (by omega) (by omega) (by omega), joinZ_reg hm hz Hq.out Hy.out (by omega) (by omega) (by omega)]; exact r9)
  have HT := Lib.hid (show nth s.zs (adr c b 0) = t from ht.symm)
  have HQ := Lib.hid (show nth s.zs 8 = q from hq.symm)
  have HEh := Lib.hid HE
  have W0 : Hid (0 < c.W) := Lib.hid (by omega)
  clear hG hR hz r9 hm hn hk hg0 HE hnl hlk ht hq
  go_enter Tryz.func70, Tryz.ntmps70
  have HT0 : Hid (Touch (inG p) w w) := Lib.hid (Touch.refl _ _)
  go_wp2_with fail
  refine (wordW p c s b 0 _ _ t _ HG.out hb W0.out rfl rfl HT.out).mono ?_
  rintro e wm1 ⟨rfl, hG, hT⟩
  have HG1 := Lib.hid hG
  have HT1 : Hid (Touch (inG p) _ wm1) := Lib.hid (HT0.out.trans hT)
  clear hG hT
  go_wp2_with fail
  refine (rg_isHead t _ (by omega) (by omega)).mono ?_
  rw [H1.out]
  rintro e wm2 ⟨rfl, hb⟩
  have HG2 := Lib.hid (HG1.out.later hb)
  have HT2 : Hid (Touch (inG p) _ wm2) := Lib.hid (HT1.out.trans (Touch.of_below hb))
  clear hb
  go_wp2_with fail
  refine (rg_isMarked t _ (by omega) (by omega)).mono ?_
  rw [H2.out]
  rintro e wm3 ⟨rfl, hb⟩
  have HG3 := Lib.hid (HG2.out.later hb)
  have HT3 : Hid (Touch (inG p) _ wm3) := Lib.hid (HT2.out.trans (Touch.of_below hb))
  clear hb
  go_wp2_with fail
  refine (regR p c _ 8 _ q _ HG3.out (by omega) rfl HQ.out).mono ?_
  rintro e wm4 ⟨rfl, hG, hT⟩
  have HG4 := Lib.hid hG
  have HT4 : Hid (Touch (inG p) _ wm4) := Lib.hid (HT3.out.trans hT)
  clear hG hT
  go_wp2_with fail
  refine (rg_join p c _ q ((b : Int) + 1) _ HG4.out Hq.out Hy.out).mono ?_
  rintro e wm5 ⟨rfl, hG, hT⟩
  have HG5 := Lib.hid hG
  have HT5 : Hid (Touch (inG p) _ wm5) := Lib.hid (HT4.out.trans hT)
  clear hG hT
  go_wp2_with fail
  refine (rg_join p c _ ((b : Int) + 1) 0 _ HG5.out Hy.out (.inl rfl)).mono ?_
  rintro e wm6 ⟨rfl, hG, hT⟩
  have HG6 := Lib.hid hG
  have HT6 : Hid (Touch (inG p) _ wm6) := Lib.hid (HT5.out.trans hT)
  clear hG hT
  go_wp2_with fail
  refine (rg_mark _).mono ?_
  rintro e wm7 ⟨rfl, hb⟩
  have HG7 := Lib.hid (HG6.out.later hb)
  have HT7 : Hid (Touch (inG p) _ wm7) := Lib.hid (HT6.out.trans (Touch.of_below hb))
  clear hb
  go_wp2_with fail
  refine (setwordW p c _ b 0 _ _ (t + 64) _ HG7.out hb W0.out rfl rfl (by omega) (by omega)).mono ?_
  rintro e wm8 ⟨rfl, hG, hT⟩
  have HG8 := Lib.hid hG
  have HT8 : Hid (Touch (inG p) _ wm8) := Lib.hid (HT7.out.trans hT)
  clear hG hT
  go_wp2_with fail
  refine (regR p c _ 9 _ (n : Int) _ HG8.out (by omega) rfl R9.out).mono ?_
  rintro e wm9 ⟨rfl, hG, hT⟩
  have HG9 := Lib.hid hG
  have HT9 : Hid (Touch (inG p) _ wm9) := Lib.hid (HT8.out.trans hT)
  clear hG hT
  go_wp2_with fail
  refine (setregR p c _ 9 _ ((n : Int) + 1) _ HG9.out (by omega) rfl (by omega) (by omega)).mono ?_
  rintro e wm10 ⟨rfl, hG, hT⟩
  have HG10 := Lib.hid hG
  have HT10 : Hid (Touch (inG p) _ wm10) := Lib.hid (HT9.out.trans hT)
  clear hG hT
  go_wp2_with fail
  go_ret
  exact ⟨rfl, HG10.out.to' HEh.out rfl, HT10.out⟩

end Go.Proofs.YtmcgplblbdjaiaaGreat.Pk
