/-
  What the functions of package ring return: Add, Cut, Take, Len, Has, List; the bundle.
-/
import Derived.Test.YtljdbaddockfcaaGreatRingFnEtc
import Derived.Test.YtljdbaddockfcaaGreatGroFnEtc
import Derived.Deep.AppendLies
import Derived.Maps.AppendAt
namespace Go.Proofs.YtljdbaddockfcaaGreat.Pk
open Go.RowKit
set_option linter.unusedVariables false
set_option linter.unusedSimpArgs false

section
variable {c : Cf} {zs : List Int} {b : Nat}
theorem ring_add_words (hm : c.May) (hz : zs.length = c.size) (hb : b < c.N) (hq : Nm c (nth zs 8)) :
    ((joinZ c ((b : Int) + 1) 0 (joinZ c (nth zs 8) ((b : Int) + 1) zs)).set (adr c b 0) (nth zs (adr c b 0) + 64)).set 9 (nth zs 9 + 1) = ringAddZ c b zs := by
  have hs := hm.size
  have hl := adr_le hm hb (u := 0) (by omega)
  have hy : Nm c ((b : Int) + 1) := .inr ⟨b, hb, rfl⟩
  have ea : ((b : Int) + 1 - 1).toNat = b := by omega
  have eb : ¬ ((b : Int) + 1 = 0) := by omega
  refine eq_ofN (by simp [joinZ_length]) (fun i hi => ?_)
  rw [nth_set (by simp [joinZ_length]; omega), nth_set (by simp [joinZ_length]; omega)]
  unfold joinZ
  rw [joinY_nth hm (by rw [joinX_length, joinY_length, joinX_length]; exact hz) (.inl rfl), joinX_nth hm (by rw [joinY_length, joinX_length]; exact hz) hy, joinY_nth hm (by rw [joinX_length]; exact hz) hy, joinX_nth hm hz hq]
  unfold ringAddN
  simp only [ea, eb, if_true, if_false]
  have hR : ∀ r x u : Nat, r < 24 → (r = adr c x u) = False := fun r x u h => eq_false (adr_reg h)
  have hR' : ∀ r x u : Nat, r < 24 → (adr c x u = r) = False := fun r x u h => eq_false (adr_reg' h)
  by_cases e9 : i = 9
  · subst e9; simp
  by_cases e7 : i = 7
  · subst e7; simp [hR]
  by_cases e8 : i = 8
  · subst e8; simp [hR]
  by_cases a0 : i = adr c b 0
  · subst a0; simp [hR']
  by_cases a6 : i = adr c b 6
  · subst a6; simp [hR', adr_i hm]
  by_cases a7 : i = adr c b 7
  · subst a7; simp [hR', adr_i hm]
  by_cases q : nth zs 8 = 0
  · simp [e9, e7, e8, a0, a6, a7, q]
  · simp [e9, e7, e8, a0, a6, a7, q]
theorem ring_cut_words (hm : c.May) (hz : zs.length = c.size) (hb : b < c.N) (hA : Nm c (nth zs (adr c b 6))) (hZ : Nm c (nth zs (adr c b 7))) :
    ((((joinZ c (nth zs (adr c b 6)) (nth zs (adr c b 7)) zs).set (adr c b 6) 0).set (adr c b 7) 0).set (adr c b 0) (nth zs (adr c b 0) - 64)).set 9 (nth zs 9 - 1) = ringCutZ c b zs := by
  have hs := hm.size
  have hl := adr_le hm hb (u := 0) (by omega)
  have hl6 := adr_le hm hb (u := 6) (by omega)
  have hl7 := adr_le hm hb (u := 7) (by omega)
  refine eq_ofN (by simp [joinZ_length]) (fun i hi => ?_)
  rw [nth_set (by simp [joinZ_length]; omega), nth_set (by simp [joinZ_length]; omega), nth_set (by simp [joinZ_length]; omega), nth_set (by simp [joinZ_length]; omega)]
  unfold joinZ
  rw [joinY_nth hm (by rw [joinX_length]; exact hz) hZ, joinX_nth hm hz hA]
  unfold ringCutN
  have hR : ∀ r x u : Nat, r < 24 → (r = adr c x u) = False := fun r x u h => eq_false (adr_reg h)
  have hR' : ∀ r x u : Nat, r < 24 → (adr c x u = r) = False := fun r x u h => eq_false (adr_reg' h)
  by_cases e9 : i = 9
  · subst e9; simp
  by_cases e7 : i = 7
  · subst e7; simp [hR]
  by_cases e8 : i = 8
  · subst e8; simp [hR]
  by_cases a0 : i = adr c b 0
  · subst a0; simp [hR']
  by_cases a6 : i = adr c b 6
  · subst a6; simp [hR', adr_i hm]
  by_cases a7 : i = adr c b 7
  · subst a7; simp [hR', adr_i hm]
  generalize nth zs (adr c b 6) = A at *
  generalize nth zs (adr c b 7) = Z at *
  have hd : ∀ x y, i = adr c x 6 → i = adr c y 7 → False := fun x y h1 h2 => by
    have := (adr_i hm (by decide) (by decide)).1 (h1.symm.trans h2); omega
  by_cases q : A = 0 <;> by_cases r : Z = 0
  · simp [e9, e7, e8, a0, a6, a7, q, r]
  · simp [e9, e7, e8, a0, a6, a7, q, r]
  · simp [e9, e7, e8, a0, a6, a7, q, r]
  · simp [e9, e7, e8, a0, a6, a7, q, r]
    by_cases u : i = adr c (A.toNat - 1) 7
    · by_cases v : i = adr c (Z.toNat - 1) 6
      · exact (hd _ _ v u).elim
      · rw [if_neg v, if_pos u, if_pos u]
    · simp [u]
end

set_option maxHeartbeats 1000000 in
theorem rg_add_no (p : Pl) (c : Cf) (s : St) (b t : Int) (w : World) (hG : G w p c s) (ht : tagI c s.zs b = t) (h : headT_ t = false ∨ headT_ t = true ∧ markB t = true) :
    Calls Tryz.prog 103 #[.pointer (some ⟨p.a, 0, none⟩), .int .i64 b] w (GP w p c ⟨s.zs, s.m + askN (wordA c b 0)⟩ (.bool false)) := by
  have HG := Lib.hid hG
  have hbd := tagI_bd hG b
  rw [ht] at hbd
  have HT := Lib.hid ht
  clear hG ht
  rcases h with h | ⟨h, hk⟩
  · have H1 := Lib.hid h
    clear h
    go_enter Tryz.func103, Tryz.ntmps103
    have HT0 : Hid (Touch (inG p) w w) := Lib.hid (Touch.refl _ _)
    go_wp2_with fail
    refine (wordTag p c s b t _ HG.out HT.out).mono ?_
    rintro e wm1 ⟨rfl, hG, hT⟩
    have HG1 := Lib.hid hG
    have HT1 : Hid (Touch (inG p) _ wm1) := Lib.hid (HT0.out.trans hT)
    clear hG hT
    go_wp2_with fail
    refine (rg_isHead t _ hbd.1 hbd.2).mono ?_
    rw [H1.out]
    rintro e wm2 ⟨rfl, hb⟩
    have HG2 := Lib.hid (HG1.out.later hb)
    have HT2 : Hid (Touch (inG p) _ wm2) := Lib.hid (HT1.out.trans (Touch.of_below hb))
    clear hb
    go_wp2_with fail
    go_ret
    exact ⟨rfl, HG2.out, HT2.out⟩
  · have H1 := Lib.hid h
    have H2 := Lib.hid hk
    clear h hk
    go_enter Tryz.func103, Tryz.ntmps103
    have HT0 : Hid (Touch (inG p) w w) := Lib.hid (Touch.refl _ _)
    go_wp2_with fail
    refine (wordTag p c s b t _ HG.out HT.out).mono ?_
    rintro e wm1 ⟨rfl, hG, hT⟩
    have HG1 := Lib.hid hG
    have HT1 : Hid (Touch (inG p) _ wm1) := Lib.hid (HT0.out.trans hT)
    clear hG hT
    go_wp2_with fail
    refine (rg_isHead t _ hbd.1 hbd.2).mono ?_
    rw [H1.out]
    rintro e wm2 ⟨rfl, hb⟩
    have HG2 := Lib.hid (HG1.out.later hb)
    have HT2 : Hid (Touch (inG p) _ wm2) := Lib.hid (HT1.out.trans (Touch.of_below hb))
    clear hb
    go_wp2_with fail
    refine (rg_isMarked t _ hbd.1 hbd.2).mono ?_
    rw [H2.out]
    rintro e wm3 ⟨rfl, hb⟩
    have HG3 := Lib.hid (HG2.out.later hb)
    have HT3 : Hid (Touch (inG p) _ wm3) := Lib.hid (HT2.out.trans (Touch.of_below hb))
    clear hb
    go_wp2_with fail
    go_ret
    exact ⟨rfl, HG3.out, HT3.out⟩
set_option maxHeartbeats 1000000 in
theorem rg_cut_no (p : Pl) (c : Cf) (s : St) (b t : Int) (w : World) (hG : G w p c s) (ht : tagI c s.zs b = t) (h : headT_ t = false ∨ headT_ t = true ∧ markB t = false) :
    Calls Tryz.prog 113 #[.pointer (some ⟨p.a, 0, none⟩), .int .i64 b] w (GP w p c ⟨s.zs, s.m + askN (wordA c b 0)⟩ (.bool false)) := by
  have HG := Lib.hid hG
  have hbd := tagI_bd hG b
  rw [ht] at hbd
  have HT := Lib.hid ht
  clear hG ht
  rcases h with h | ⟨h, hk⟩
  · have H1 := Lib.hid h
    clear h
    go_enter Tryz.func113, Tryz.ntmps113
    have HT0 : Hid (Touch (inG p) w w) := Lib.hid (Touch.refl _ _)
    go_wp2_with fail
    refine (wordTag p c s b t _ HG.out HT.out).mono ?_
    rintro e wm1 ⟨rfl, hG, hT⟩
    have HG1 := Lib.hid hG
    have HT1 : Hid (Touch (inG p) _ wm1) := Lib.hid (HT0.out.trans hT)
    clear hG hT
    go_wp2_with fail
    refine (rg_isHead t _ hbd.1 hbd.2).mono ?_
    rw [H1.out]
    rintro e wm2 ⟨rfl, hb⟩
    have HG2 := Lib.hid (HG1.out.later hb)
    have HT2 : Hid (Touch (inG p) _ wm2) := Lib.hid (HT1.out.trans (Touch.of_below hb))
    clear hb
    go_wp2_with fail
    go_ret
    exact ⟨rfl, HG2.out, HT2.out⟩
  · have H1 := Lib.hid h
    have H2 := Lib.hid hk
    clear h hk
    go_enter Tryz.func113, Tryz.ntmps113
    have HT0 : Hid (Touch (inG p) w w) := Lib.hid (Touch.refl _ _)
    go_wp2_with fail
    refine (wordTag p c s b t _ HG.out HT.out).mono ?_
    rintro e wm1 ⟨rfl, hG, hT⟩
    have HG1 := Lib.hid hG
    have HT1 : Hid (Touch (inG p) _ wm1) := Lib.hid (HT0.out.trans hT)
    clear hG hT
    go_wp2_with fail
    refine (rg_isHead t _ hbd.1 hbd.2).mono ?_
    rw [H1.out]
    rintro e wm2 ⟨rfl, hb⟩
    have HG2 := Lib.hid (HG1.out.later hb)
    have HT2 : Hid (Touch (inG p) _ wm2) := Lib.hid (HT1.out.trans (Touch.of_below hb))
    clear hb
    go_wp2_with fail
    refine (rg_isMarked t _ hbd.1 hbd.2).mono ?_
    rw [H2.out]
    rintro e wm3 ⟨rfl, hb⟩
    have HG3 := Lib.hid (HG2.out.later hb)
    have HT3 : Hid (Touch (inG p) _ wm3) := Lib.hid (HT2.out.trans (Touch.of_below hb))
    clear hb
    go_wp2_with fail
    go_ret
    exact ⟨rfl, HG3.out, HT3.out⟩
set_option maxHeartbeats 1000000 in
theorem rg_add_yes (p : Pl) (c : Cf) (s : St) (b : Nat) (l : List Nat) (w : World) (hG : G w p c s) (hR : RingAt c s.zs l) (hb : b < c.N) (hn : b ∉ l) (hk : HeadT (nth s.zs (adr c b 0))) :
    Calls Tryz.prog 103 #[.pointer (some ⟨p.a, 0, none⟩), .int .i64 (b : Int)] w (GP w p c ⟨ringAddZ c b s.zs, s.m + 9⟩ (.bool true)) := by
  have HG := Lib.hid hG
  have hm := hG.may
  have hz := hG.len
  have hN := hm.n
  have hW := hm.w
  have hlk := nodup_len hR.nd hR.lt
  obtain ⟨n, hnl⟩ : ∃ n : Nat, n = l.length := ⟨_, rfl⟩
  have hnN : n ≤ c.N := by rw [hnl]; exact hlk
  have r9 : nth s.zs 9 = (n : Int) := by rw [hnl]; exact hR.r9
  have hg0 := hR.mk0 hb hn
  have hbd := (hR.tok b hb).bd
  have HE := ring_add_words hm hz hb (by rw [hR.r8]; exact Nm.lst hR.lt)
  rw [r9] at HE
  have Hq : Hid (Nm c (nth s.zs 8)) := Lib.hid (by rw [hR.r8]; exact Nm.lst hR.lt)
  have Hy : Hid (Nm c ((b : Int) + 1)) := Lib.hid (.inr ⟨b, hb, rfl⟩)
  obtain ⟨t, ht⟩ : ∃ t, t = nth s.zs (adr c b 0) := ⟨_, rfl⟩
  rw [← ht] at HE hg0 hbd hk
  obtain ⟨q, hq⟩ : ∃ q, q = nth s.zs 8 := ⟨_, rfl⟩
  rw [← hq] at HE Hq
  have H1 := Lib.hid (headT_yes hk)
  have H2 : Hid (markB t = false) := Lib.hid (decide_eq_false (by omega))
  have eor := or_64 (by omega) (by omega) hg0
  have ew1 : IntKind.i64.wrap ((b : Int) + 1) = (b : Int) + 1 := IntWalk.i64_in _ (by omega)
  have ew3 : IntKind.i64.wrap ((n : Int) + 1) = (n : Int) + 1 := IntWalk.i64_in _ (by omega)
  have R9 : Hid (nth ((joinZ c ((b : Int) + 1) 0 (joinZ c q ((b : Int) + 1) s.zs)).set (adr c b 0) (t + 64)) 9 = (n : Int)) := Lib.hid (by
    rw [nth_set_ne (adr_reg' (by omega)), joinZ_reg hm (by rw [joinZ_length]; exact hz) Hy.out (.inl rfl) (by omega) (by omega) (by omega), joinZ_reg hm hz Hq.out Hy.out (by omega) (by omega) (by omega)]; exact r9)
  have HT := Lib.hid (show nth s.zs (adr c b 0) = t from ht.symm)
  have HQ := Lib.hid (show nth s.zs 8 = q from hq.symm)
  have HEh := Lib.hid HE
  have W0 : Hid (0 < c.W) := Lib.hid (by omega)
  clear hG hR hz r9 hm hn hk hg0 HE hnl hlk ht hq
  go_enter Tryz.func103, Tryz.ntmps103
  have HT0 : Hid (Touch (inG p) w w) := Lib.hid (Touch.refl _ _)
  go_wp2_with fail
  refine (wordW p c s b 0 _ _ t _ HG.out hb W0.out rfl rfl HT.out).mono ?_
  rintro e wm1 ⟨rfl, hG, hT⟩
  have HG1 := Lib.hid hG
  have HT1 : Hid (Touch (inG p) _ wm1) := Lib.hid (HT0.out.trans hT)
  clear hG hT
  go_wp2_with fail
  refine (rg_isHead t _ (by omega) (by omega)).mono ?_
  rw [H1.out]
  rintro e wm2 ⟨rfl, hb⟩
  have HG2 := Lib.hid (HG1.out.later hb)
  have HT2 : Hid (Touch (inG p) _ wm2) := Lib.hid (HT1.out.trans (Touch.of_below hb))
  clear hb
  go_wp2_with fail
  refine (rg_isMarked t _ (by omega) (by omega)).mono ?_
  rw [H2.out]
  rintro e wm3 ⟨rfl, hb⟩
  have HG3 := Lib.hid (HG2.out.later hb)
  have HT3 : Hid (Touch (inG p) _ wm3) := Lib.hid (HT2.out.trans (Touch.of_below hb))
  clear hb
  go_wp2_with fail
  refine (regR p c _ 8 _ q _ HG3.out (by omega) rfl HQ.out).mono ?_
  rintro e wm4 ⟨rfl, hG, hT⟩
  have HG4 := Lib.hid hG
  have HT4 : Hid (Touch (inG p) _ wm4) := Lib.hid (HT3.out.trans hT)
  clear hG hT
  go_wp2_with fail
  refine (rg_join p c _ q ((b : Int) + 1) _ HG4.out Hq.out Hy.out).mono ?_
  rintro e wm5 ⟨rfl, hG, hT⟩
  have HG5 := Lib.hid hG
  have HT5 : Hid (Touch (inG p) _ wm5) := Lib.hid (HT4.out.trans hT)
  clear hG hT
  go_wp2_with fail
  refine (rg_join p c _ ((b : Int) + 1) 0 _ HG5.out Hy.out (.inl rfl)).mono ?_
  rintro e wm6 ⟨rfl, hG, hT⟩
  have HG6 := Lib.hid hG
  have HT6 : Hid (Touch (inG p) _ wm6) := Lib.hid (HT5.out.trans hT)
  clear hG hT
  go_wp2_with fail
  refine (rg_mark _).mono ?_
  rintro e wm7 ⟨rfl, hb⟩
  have HG7 := Lib.hid (HG6.out.later hb)
  have HT7 : Hid (Touch (inG p) _ wm7) := Lib.hid (HT6.out.trans (Touch.of_below hb))
  clear hb
  go_wp2_with fail
  refine (setwordW p c _ b 0 _ _ (t + 64) _ HG7.out hb W0.out rfl rfl (by omega) (by omega)).mono ?_
  rintro e wm8 ⟨rfl, hG, hT⟩
  have HG8 := Lib.hid hG
  have HT8 : Hid (Touch (inG p) _ wm8) := Lib.hid (HT7.out.trans hT)
  clear hG hT
  go_wp2_with fail
  refine (regR p c _ 9 _ (n : Int) _ HG8.out (by omega) rfl R9.out).mono ?_
  rintro e wm9 ⟨rfl, hG, hT⟩
  have HG9 := Lib.hid hG
  have HT9 : Hid (Touch (inG p) _ wm9) := Lib.hid (HT8.out.trans hT)
  clear hG hT
  go_wp2_with fail
  refine (setregR p c _ 9 _ ((n : Int) + 1) _ HG9.out (by omega) rfl (by omega) (by omega)).mono ?_
  rintro e wm10 ⟨rfl, hG, hT⟩
  have HG10 := Lib.hid hG
  have HT10 : Hid (Touch (inG p) _ wm10) := Lib.hid (HT9.out.trans hT)
  clear hG hT
  go_wp2_with fail
  go_ret
  exact ⟨rfl, HG10.out.to' HEh.out rfl, HT10.out⟩

set_option maxHeartbeats 1000000 in
theorem rg_cut_yes (p : Pl) (c : Cf) (s : St) (b : Nat) (l : List Nat) (w : World) (hG : G w p c s) (hR : RingAt c s.zs l) (hbl : b ∈ l) :
    Calls Tryz.prog 113 #[.pointer (some ⟨p.a, 0, none⟩), .int .i64 (b : Int)] w (GP w p c ⟨ringCutZ c b s.zs, s.m + 10⟩ (.bool true)) := by
  have HG := Lib.hid hG
  have hm := hG.may
  have hz := hG.len
  have hN := hm.n
  have hW := hm.w
  have hlk := nodup_len hR.nd hR.lt
  have hb := hR.lt b hbl
  have hl1 : 0 < l.length := List.length_pos_of_mem hbl
  obtain ⟨n, hnl⟩ : ∃ n : Nat, n = l.length := ⟨_, rfl⟩
  have hnN : n ≤ c.N := by rw [hnl]; exact hlk
  have hn1 : 0 < n := by rw [hnl]; exact hl1
  have r9 : nth s.zs 9 = (n : Int) := by rw [hnl]; exact hR.r9
  have hg1 := (hR.mrk b hb).2 hbl
  have hbd := (hR.tok b hb).bd
  have hk := hR.hd b hbl
  obtain ⟨l1, l2, hl⟩ := split_of hbl
  have hlt := hR.lt
  subst hl
  obtain ⟨h6, h7⟩ := hR.split
  have Ha : Nm c (nth s.zs (adr c b 6)) := by rw [h6]; exact Nm.lst (fun x hx => hlt x (by simp [hx]))
  have Hz : Nm c (nth s.zs (adr c b 7)) := by rw [h7]; exact Nm.fst (fun x hx => hlt x (by simp [hx]))
  have HE := ring_cut_words hm hz hb Ha Hz
  rw [r9] at HE
  clear hR hlt hnl hl1 hlk hbl h6 h7
  obtain ⟨t, ht⟩ : ∃ t, t = nth s.zs (adr c b 0) := ⟨_, rfl⟩
  rw [← ht] at HE hg1 hbd hk
  obtain ⟨u, hu⟩ : ∃ u, u = nth s.zs (adr c b 6) := ⟨_, rfl⟩
  obtain ⟨v, hv⟩ : ∃ v, v = nth s.zs (adr c b 7) := ⟨_, rfl⟩
  rw [← hu] at HE Ha
  rw [← hv] at HE Hz
  have ub := Ha.bd hm
  have vb := Hz.bd hm
  have H1 := Lib.hid (headT_yes hk)
  have H2 : Hid (markB t = true) := Lib.hid (decide_eq_true hg1)
  have htb : 64 ≤ t := by unfold uG at hg1; omega
  have enot := not_64 (by omega) (by omega) hg1
  have ew1 : IntKind.i64.wrap u = u := IntWalk.i64_in _ (by omega)
  have ew2 : IntKind.i64.wrap v = v := IntWalk.i64_in _ (by omega)
  have ew3 : IntKind.i64.wrap ((n : Int) - 1) = (n : Int) - 1 := IntWalk.i64_in _ (by omega)
  have R9 : Hid (nth ((((joinZ c u v s.zs).set (adr c b 6) 0).set (adr c b 7) 0).set (adr c b 0) (t - 64)) 9 = (n : Int)) := Lib.hid (by
    rw [nth_set_ne (adr_reg' (by omega)), nth_set_ne (adr_reg' (by omega)), nth_set_ne (adr_reg' (by omega)), joinZ_reg hm hz Ha Hz (by omega) (by omega) (by omega)]; exact r9)
  have HT := Lib.hid (show nth s.zs (adr c b 0) = t from ht.symm)
  have HU := Lib.hid (show nth s.zs (adr c b 6) = u from hu.symm)
  have HV := Lib.hid (show nth s.zs (adr c b 7) = v from hv.symm)
  have HEh := Lib.hid HE
  have HA := Lib.hid Ha
  have HZ := Lib.hid Hz
  have W0 : Hid (0 < c.W) := Lib.hid (by omega)
  have W6 : Hid (6 < c.W) := Lib.hid (by omega)
  have W7 : Hid (7 < c.W) := Lib.hid (by omega)
  clear hG hz r9 hm hk hg1 HE ht hu hv Ha Hz
  go_enter Tryz.func113, Tryz.ntmps113
  have HT0 : Hid (Touch (inG p) w w) := Lib.hid (Touch.refl _ _)
  go_wp2_with fail
  refine (wordW p c s b 0 _ _ t _ HG.out hb W0.out rfl rfl HT.out).mono ?_
  rintro e wm1 ⟨rfl, hG, hT⟩
  have HG1 := Lib.hid hG
  have HT1 : Hid (Touch (inG p) _ wm1) := Lib.hid (HT0.out.trans hT)
  clear hG hT
  go_wp2_with fail
  refine (rg_isHead t _ (by omega) (by omega)).mono ?_
  rw [H1.out]
  rintro e wm2 ⟨rfl, hb⟩
  have HG2 := Lib.hid (HG1.out.later hb)
  have HT2 : Hid (Touch (inG p) _ wm2) := Lib.hid (HT1.out.trans (Touch.of_below hb))
  clear hb
  go_wp2_with fail
  refine (rg_isMarked t _ (by omega) (by omega)).mono ?_
  rw [H2.out]
  rintro e wm3 ⟨rfl, hb⟩
  have HG3 := Lib.hid (HG2.out.later hb)
  have HT3 : Hid (Touch (inG p) _ wm3) := Lib.hid (HT2.out.trans (Touch.of_below hb))
  clear hb
  go_wp2_with fail
  refine (wordW p c _ b 6 _ _ u _ HG3.out hb W6.out rfl rfl HU.out).mono ?_
  rintro e wm4 ⟨rfl, hG, hT⟩
  have HG4 := Lib.hid hG
  have HT4 : Hid (Touch (inG p) _ wm4) := Lib.hid (HT3.out.trans hT)
  clear hG hT
  go_wp2_with fail
  refine (wordW p c _ b 7 _ _ v _ HG4.out hb W7.out rfl rfl HV.out).mono ?_
  rintro e wm5 ⟨rfl, hG, hT⟩
  have HG5 := Lib.hid hG
  have HT5 : Hid (Touch (inG p) _ wm5) := Lib.hid (HT4.out.trans hT)
  clear hG hT
  go_wp2_with fail
  refine (rg_join p c _ u v _ HG5.out HA.out HZ.out).mono ?_
  rintro e wm6 ⟨rfl, hG, hT⟩
  have HG6 := Lib.hid hG
  have HT6 : Hid (Touch (inG p) _ wm6) := Lib.hid (HT5.out.trans hT)
  clear hG hT
  go_wp2_with fail
  refine (setwordW p c _ b 6 _ _ 0 _ HG6.out hb W6.out rfl rfl (by omega) (by omega)).mono ?_
  rintro e wm7 ⟨rfl, hG, hT⟩
  have HG7 := Lib.hid hG
  have HT7 : Hid (Touch (inG p) _ wm7) := Lib.hid (HT6.out.trans hT)
  clear hG hT
  go_wp2_with fail
  refine (setwordW p c _ b 7 _ _ 0 _ HG7.out hb W7.out rfl rfl (by omega) (by omega)).mono ?_
  rintro e wm8 ⟨rfl, hG, hT⟩
  have HG8 := Lib.hid hG
  have HT8 : Hid (Touch (inG p) _ wm8) := Lib.hid (HT7.out.trans hT)
  clear hG hT
  go_wp2_with fail
  refine (rg_mark _).mono ?_
  rintro e wm9 ⟨rfl, hb⟩
  have HG9 := Lib.hid (HG8.out.later hb)
  have HT9 : Hid (Touch (inG p) _ wm9) := Lib.hid (HT8.out.trans (Touch.of_below hb))
  clear hb
  go_wp2_with fail
  refine (setwordW p c _ b 0 _ _ (t - 64) _ HG9.out hb W0.out rfl rfl (by omega) (by omega)).mono ?_
  rintro e wm10 ⟨rfl, hG, hT⟩
  have HG10 := Lib.hid hG
  have HT10 : Hid (Touch (inG p) _ wm10) := Lib.hid (HT9.out.trans hT)
  clear hG hT
  go_wp2_with fail
  refine (regR p c _ 9 _ (n : Int) _ HG10.out (by omega) rfl R9.out).mono ?_
  rintro e wm11 ⟨rfl, hG, hT⟩
  have HG11 := Lib.hid hG
  have HT11 : Hid (Touch (inG p) _ wm11) := Lib.hid (HT10.out.trans hT)
  clear hG hT
  go_wp2_with fail
  refine (setregR p c _ 9 _ ((n : Int) - 1) _ HG11.out (by omega) rfl (by omega) (by omega)).mono ?_
  rintro e wm12 ⟨rfl, hG, hT⟩
  have HG12 := Lib.hid hG
  have HT12 : Hid (Touch (inG p) _ wm12) := Lib.hid (HT11.out.trans hT)
  clear hG hT
  go_wp2_with fail
  go_ret
  exact ⟨rfl, HG12.out.to' HEh.out rfl, HT12.out⟩

end Go.Proofs.YtljdbaddockfcaaGreat.Pk
