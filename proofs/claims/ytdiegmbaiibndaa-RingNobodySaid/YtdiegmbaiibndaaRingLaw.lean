/-
  Layer 9: the law's own tags, and the ground that it makes of kinds.
-/
import Derived.Test.YtdiegmbaiibndaaRing
import Derived.Test.YtdiegmbaiibndaaRefTag
import Derived.BigQuiet
namespace Go.Proofs.Ytdiegmbaiibndaa.Pk
open Go.RowKit
set_option linter.unusedVariables false
set_option linter.unusedSimpArgs false

/-- Is a number one of a head's kind? -/
def headK (k : Int) : Bool := k % 4 == 1 || k % 4 == 2
def tgC (k : Int) : Int := if headK k = true then k / 4 % 2 else 0
def tgS (k : Int) : Int := if headK k = true then k / 8 % 2 else 0
/-- The law's tag's word. -/
def tagW (k : Int) : Int := packI (k % 4) (tgC k) 0 (tgS k) 0 0 0
theorem headK_iff {k : Int} : headK k = true ↔ (k % 4 = 1 ∨ k % 4 = 2) := by unfold headK; simp
theorem tag_right (k : Int) : RightT (k % 4) (tgC k) 0 (tgS k) 0 0 0 := by
  unfold RightT tgC tgS
  by_cases h : headK k = true
  · rw [if_pos h, if_pos h]; rw [headK_iff] at h; omega
  · rw [if_neg h, if_neg h]; rw [headK_iff] at h; omega
theorem tag_right1 {k : Int} (h : headK k = true) : RightT (k % 4) (tgC k) 0 (tgS k) 0 1 0 := by
  unfold RightT tgC tgS
  rw [if_pos h, if_pos h]; rw [headK_iff] at h; omega
theorem tag_bits (k : Int) : uK (tagW k) = k % 4 ∧ uG (tagW k) = 0 ∧ TagOk (tagW k) := by
  have h := tag_right k
  have hu := unpack_pack h
  refine ⟨hu.1, ?_, ?_⟩
  · unfold tagW uG packI; unfold RightT at h; omega
  · refine ⟨?_, ?_, ?_⟩
    · unfold tagW
      rw [hu.1, hu.2.1, hu.2.2.1, hu.2.2.2.1, hu.2.2.2.2.1, hu.2.2.2.2.2.1, hu.2.2.2.2.2.2]
      exact h
    · unfold tagW packI; unfold RightT at h; omega
    · unfold tagW packI; unfold RightT at h; omega
theorem tag_head {k : Int} : HeadT (tagW k) ↔ headK k = true := by unfold HeadT; rw [(tag_bits k).1, headK_iff]
theorem tag_one (k : Int) : packI (k % 4) (tgC k) 0 (tgS k) 0 1 0 = tagW k + 64 := by unfold tagW packI; omega

set_option maxHeartbeats 400000 in
theorem tagOf_any (k : Int) (w : World) (h0 : 0 ≤ k) (h1 : k < 256) :
    Calls Try.prog 22 #[.int .u8 k] w fun e w' => e = .returned (.agg #[.int .i64 (k % 4), .int .i64 (tgC k), .int .i64 0, .int .i64 (tgS k), .int .i64 0, .int .i64 0, .int .i64 0]) ∧ Below w.heap.size w w' := by
  have e1 : Int.tmod k 4 = k % 4 := Int.tmod_eq_emod_of_nonneg h0
  have e2 : Int.tdiv k 4 = k / 4 := Int.tdiv_eq_ediv_of_nonneg h0
  have e3 : Int.tdiv k 8 = k / 8 := Int.tdiv_eq_ediv_of_nonneg h0
  have e4 : Int.tmod (k / 4) 2 = k / 4 % 2 := Int.tmod_eq_emod_of_nonneg (by omega)
  have e5 : Int.tmod (k / 8) 2 = k / 8 % 2 := Int.tmod_eq_emod_of_nonneg (by omega)
  by_cases h : headK k = true
  · have hC : Hid (tgC k = k / 4 % 2 ∧ tgS k = k / 8 % 2) := Lib.hid ⟨by unfold tgC; rw [if_pos h], by unfold tgS; rw [if_pos h]⟩
    rw [hC.out.1, hC.out.2]
    have h' := headK_iff.1 h
    have b0 : 0 ≤ k / 4 % 2 ∧ k / 4 % 2 < 2 := by omega
    have b1 : 0 ≤ k / 8 % 2 ∧ k / 8 % 2 < 2 := by omega
    clear h
    rcases h' with h' | h'
    all_goals
      go_enter Try.func22, Try.ntmps22
      go_wp2_with fail
      exact bodyPost_ret (v := .agg #[.int .i64 (k % 4), .int .i64 (k / 4 % 2), .int .i64 0, .int .i64 (k / 8 % 2), .int .i64 0, .int .i64 0, .int .i64 0]) (by simp [results, Try.results22, go_sem, h']) rfl ⟨rfl, by
        repeat refine Below.setCell ?_ (by simp) _
        exact (below_new w _).alloc (by simp) _⟩
  · have hC : Hid (tgC k = 0 ∧ tgS k = 0) := Lib.hid ⟨by unfold tgC; rw [if_neg h], by unfold tgS; rw [if_neg h]⟩
    rw [hC.out.1, hC.out.2]
    rw [headK_iff] at h
    have b1 : (k % 4 == 1) = false := by rw [beq_eq_false_iff_ne]; omega
    have b2 : (k % 4 == 2) = false := by rw [beq_eq_false_iff_ne]; omega
    clear h
    go_enter Try.func22, Try.ntmps22
    go_wp2_with fail
    exact bodyPost_ret (v := .agg #[.int .i64 (k % 4), .int .i64 0, .int .i64 0, .int .i64 0, .int .i64 0, .int .i64 0, .int .i64 0]) (by simp [results, Try.results22, go_sem]) rfl ⟨rfl, by
      repeat refine Below.setCell ?_ (by simp) _
      exact (below_new w _).alloc (by simp) _⟩

/-- The words of the ground that the law makes, when j tags are laid. -/
def Made (c : Cf) (ks : List Int) (j : Nat) (zs : List Int) : Prop :=
  (∀ b, b < c.N → nth zs (adr c b 0) = if b < j then tagW (nth ks b) else 0) ∧ ∀ i, (∀ b, b < c.N → i ≠ adr c b 0) → nth zs i = 0
theorem Made.step {c : Cf} {ks : List Int} {j : Nat} {zs : List Int} (h : Made c ks j zs) (hm : c.May) (hz : zs.length = c.size) (hj : j < c.N) : Made c ks (j + 1) (zs.set (adr c j 0) (tagW (nth ks j))) := by
  have hl := adr_le hm hj (show 0 < 16 by omega)
  refine ⟨fun b hb => ?_, fun i hi => ?_⟩
  · rw [nth_set (by omega)]
    simp only [adr_i hm (show 0 < 16 by omega) (show 0 < 16 by omega), and_true]
    by_cases e : b = j
    · rw [if_pos e, if_pos (by omega), e]
    · rw [if_neg e, h.1 b hb]
      by_cases hlt : b < j
      · rw [if_pos hlt, if_pos (by omega)]
      · rw [if_neg hlt, if_neg (by omega)]
  · rw [nth_set (by omega), if_neg (hi j hj)]
    exact h.2 i hi
set_option maxHeartbeats 1000000 in
theorem made_any (a : Option Addr) (cap n : Nat) (ks : List Int) (w : World) (hr : Row w .u8 a ks) (hn : n = ks.length) (hk : Kinds ks) (h0 : 1 ≤ n) (h1 : n ≤ 1000) :
    Calls Try.prog 7 #[.slice a n cap] w fun e w' => ∃ p s, e = .returned (.tuple #[.pointer (some ⟨p.a, 0, none⟩), .bool true]) ∧ G w' p (cfR n) s ∧ Made (cfR n) ks n s.zs ∧ (∀ k, ofG p k → w.heap.size ≤ k) ∧ Below w.heap.size w w' := by
  have HR := Lib.hid hr
  have HK := Lib.hid hk
  have HN := Lib.hid hn
  have hm : Hid (cfR n).May := Lib.hid (cfR_may h0 h1)
  clear hr hk hn
  go_enter Try.func7, Try.ntmps7
  go_wp2_with fail
  refine (newR n h0 h1 _).mono ?_
  rintro e w1 ⟨p, rfl, hG, hp, hb⟩
  have HP := Lib.hid hp
  have HM0 : Hid (Made (cfR n) ks 0 (List.replicate (cfR n).size 0)) := Lib.hid ⟨fun b _ => by rw [nth_rep, if_neg (by omega)], fun i _ => nth_rep _ _⟩
  have HG := Lib.hid hG
  have HB := Lib.hid hb
  clear hG hp hb
  go_wp2_with fail
  go_loopw [20] (fun i wr => ∃ j : Nat, j ≤ n ∧ i = .int .i64 (j : Int) ∧ ∃ s, G wr p (cfR n) s ∧ Made (cfR n) ks j s.zs ∧ Below w.heap.size w wr) (fun i _ => n - (intOf i).toNat)
  case atStart => exact ⟨0, Nat.zero_le _, rfl, _, HG.out, HM0.out, HB.out⟩
  case round =>
    obtain ⟨j, hj, rfl, s, hG, hM, hbel⟩ := hrel
    have HGr := Lib.hid hG
    have HM := Lib.hid hM
    have HBe := Lib.hid hbel
    by_cases hlt : j < n
    · obtain ⟨b, off, rfl, hb, hc⟩ := HR.out j (by rw [← HN.out]; exact hlt)
      have hc' := (hbel.cell (p := ⟨b, off + j, none⟩) hb).trans hc
      have hkj := HK.out j
      have HE : Hid (nth ks j = nth ks j) := Lib.hid rfl
      have HT := Lib.hid (tag_right (nth ks j))
      have HBd := Lib.hid (packI_bd (tag_right (nth ks j)))
      clear hG hM hbel hc
      have HT0 : Hid (Touch (inG p) wr wr) := Lib.hid (Touch.refl _ _)
      go_wp2_with fail
      refine (tagOf_any (nth ks j) _ hkj.1 hkj.2).mono ?_
      rintro e wm1 ⟨rfl, hb⟩
      have HG1 := Lib.hid (HGr.out.later hb)
      have HT1 : Hid (Touch (inG p) _ wm1) := Lib.hid (HT0.out.trans (Touch.of_below hb))
      clear hb
      go_wp2_with fail
      refine (refPackT_any _ _ _ _ _ _ _ _ HT.out).mono ?_
      rintro e wm2 ⟨rfl, hb⟩
      have HG2 := Lib.hid (HG1.out.later hb)
      have HT2 : Hid (Touch (inG p) _ wm2) := Lib.hid (HT1.out.trans (Touch.of_below hb))
      clear hb
      go_wp2_with fail
      refine (setwordW p (cfR n) s j 0 _ _ _ _ HG2.out hlt (by simp [cfR]) rfl rfl HBd.out.1 HBd.out.2).mono ?_
      rintro e wm3 ⟨rfl, hG, hT⟩
      have HG3 := Lib.hid hG
      have HT3 : Hid (Touch (inG p) _ wm3) := Lib.hid (HT2.out.trans hT)
      clear hG hT
      go_wp2_with fail
      go_roundw
      case rel => exact ⟨j + 1, by omega, by go_num, _, HG3.out, HM.out.step hm.out HGr.out.len hlt, HBe.out.trans (HT3.out.below (B := w.heap.size) (fun k hk => HP.out k (Or.inr hk)) HBe.out.size)⟩
      case measure => simp [intOf]; omega
    · have HMn : Hid (Made (cfR n) ks n s.zs) := Lib.hid ((show j = n by omega) ▸ HM.out)
      clear hG hM hbel
      go_wp2_with fail
      go_ret2
      exact ⟨p, s, rfl, HGr.out, HMn.out, HP.out, HBe.out⟩

/-- The law's head. -/
def headB (ks : List Int) (b : Int) : Bool := bel b ks.length && headK (nth ks b.toNat)
set_option maxHeartbeats 400000 in
theorem head_any (a : Option Addr) (cap n : Nat) (ks : List Int) (b : Int) (w : World) (hr : Row w .u8 a ks) (hn : n = ks.length) (hk : Kinds ks) :
    Calls Try.prog 24 #[.slice a n cap, .int .i64 b] w fun e w' => e = .returned (.bool (headB ks b)) ∧ Drw w w' := by
  subst hn
  by_cases h0 : b < 0
  · have E : Hid (headB ks b = false) := Lib.hid (by unfold headB bel; simp; omega)
    clear hr
    go_enter Try.func24, Try.ntmps24
    go_wp2_with fail
    go_ret
    exact ⟨ret_bool E.out.symm, Drw.refl _⟩
  · by_cases h1 : (ks.length : Int) ≤ b
    · have E : Hid (headB ks b = false) := Lib.hid (by unfold headB bel; simp; omega)
      clear hr
      go_enter Try.func24, Try.ntmps24
      go_wp2_with fail
      go_ret
      exact ⟨ret_bool E.out.symm, Drw.refl _⟩
    · obtain ⟨j, rfl⟩ := Int.eq_ofNat_of_zero_le (show 0 ≤ b by omega)
      have hj : j < ks.length := by omega
      obtain ⟨g, off, rfl, hg, hc⟩ := hr j hj
      have hkj := hk j
      have E0 : headB ks (j : Int) = headK (nth ks j) := by unfold headB; rw [bel_mk hj]; simp
      have E : Hid (headB ks (j : Int) = (nth ks j % 4 == 1 || nth ks j % 4 == 2)) := Lib.hid E0
      have e1 : Int.tmod (nth ks j) 4 = nth ks j % 4 := Int.tmod_eq_emod_of_nonneg hkj.1
      clear hr E0 h0 h1
      generalize nth ks j = k at *
      by_cases k1 : k % 4 = 1
      · go_enter Try.func24, Try.ntmps24
        go_wp2_with fail
        go_ret
        exact ⟨ret_bool (by rw [E.out, k1]; rfl), Drw.refl _⟩
      · have k1' : (k % 4 == 1) = false := by rw [beq_eq_false_iff_ne]; exact k1
        have E1 : Hid (headB ks (j : Int) = (k % 4 == 2)) := Lib.hid (by rw [E.out, k1']; rfl)
        clear k1
        go_enter Try.func24, Try.ntmps24
        go_wp2_with fail
        go_ret
        exact ⟨ret_bool E1.out.symm, Drw.refl _⟩

/-- The number ahead of a place, and one. -/
def rgAheadI (zs : List Int) (i : Nat) : Int := if i < 1 then 0 else nth zs (i - 1) + 1
theorem rcAhead_any (a : Option Addr) (cap n : Nat) (zs : List Int) (i : Nat) (w : World) (hr : Row w .i64 a zs) (hn : n = zs.length) (hl : n ≤ 10000) (hf : Few zs) (hi : i ≤ n) :
    Calls Try.prog 31 #[.slice a n cap, .int .i64 (i : Int)] w fun e w' => e = .returned (.int .i64 (rgAheadI zs i)) ∧ w = w' := by
  by_cases h : i < 1
  · have E : Hid (rgAheadI zs i = 0) := Lib.hid (by unfold rgAheadI; rw [if_pos h])
    have h2 : (i : Int) < 1 := by omega
    clear hf hr
    go_enter Try.func31, Try.ntmps31
    go_wp2
    go_ret
    exact ⟨ret_int E.out.symm, rfl⟩
  · obtain ⟨j, rfl⟩ : ∃ j, i = j + 1 := ⟨i - 1, by omega⟩
    have E : Hid (rgAheadI zs (j + 1) = nth zs j + 1) := Lib.hid (by unfold rgAheadI; rw [if_neg h]; rfl)
    obtain ⟨g, off, rfl, hg, hc⟩ := hr j (by omega)
    have f1 := hf j
    have hcast : (((j + 1 : Nat) : Int) - 1) = (j : Int) := by omega
    have h2 : ¬ (((j + 1 : Nat) : Int) < 1) := by omega
    have hjn : j < n := by omega
    clear hf hr hn
    go_enter Try.func31, Try.ntmps31
    go_wp2
    go_ret
    exact ⟨ret_int E.out.symm, rfl⟩

end Go.Proofs.Ytdiegmbaiibndaa.Pk
