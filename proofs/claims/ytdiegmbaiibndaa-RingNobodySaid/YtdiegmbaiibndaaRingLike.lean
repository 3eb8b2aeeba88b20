/-
  Layer 9: how the law's ground stands beside a row: registers, links and tags.
-/
import Derived.Test.YtdiegmbaiibndaaRingLaw
namespace Go.Proofs.Ytdiegmbaiibndaa.Pk
open Go.RowKit
set_option linter.unusedVariables false
set_option linter.unusedSimpArgs false

/-- The ring stands as the row says, and all tags are those of the kinds. -/
structure LikeR (c : Cf) (ks : List Int) (l : List Nat) (zs : List Int) : Prop where
  ring : RingAt c zs l
  tags : ∀ b, b < c.N → nth zs (adr c b 0) = tagW (nth ks b) + if b ∈ l then 64 else 0
  idle : ∀ b, b < c.N → b ∉ l → nth zs (adr c b 6) = 0 ∧ nth zs (adr c b 7) = 0
theorem LikeR.kind {c : Cf} {ks : List Int} {l : List Nat} {zs : List Int} (h : LikeR c ks l zs) {b : Nat} (hb : b < c.N) : HeadT (nth zs (adr c b 0)) ↔ headK (nth ks b) = true := by
  rw [h.tags b hb, ← tag_head]
  unfold HeadT uK
  by_cases e : b ∈ l
  · rw [if_pos e]; omega
  · rw [if_neg e]; omega
theorem Made.like {c : Cf} {ks : List Int} {zs : List Int} (h : Made c ks c.N zs) (hm : c.May) : LikeR c ks [] zs := by
  have hr : ∀ r, r < 24 → nth zs r = 0 := fun r hr => h.2 r (fun b _ => adr_reg hr)
  have ht : ∀ b, b < c.N → nth zs (adr c b 0) = tagW (nth ks b) := fun b hb => by rw [h.1 b hb, if_pos hb]
  refine ⟨⟨hr 7 (by omega), hr 8 (by omega), hr 9 (by omega), fun b hb => absurd hb (by simp), List.nodup_nil, trivial, fun b hb => by rw [ht b hb]; exact (tag_bits _).2.2, fun b hb => absurd hb (by simp), fun b hb => ?_⟩, fun b hb => by rw [ht b hb]; simp, ?_⟩
  · rw [ht b hb, (tag_bits _).2.1]; simp
  · intro b hb _
    exact ⟨h.2 _ (fun x _ e => by have := (adr_i hm (show 6 < 16 by omega) (show 0 < 16 by omega)).1 e; omega), h.2 _ (fun x _ e => by have := (adr_i hm (show 7 < 16 by omega) (show 0 < 16 by omega)).1 e; omega)⟩
theorem LikeR.add {c : Cf} {ks : List Int} {l : List Nat} {zs : List Int} {b : Nat} (h : LikeR c ks l zs) (hm : c.May) (hz : zs.length = c.size) (hb : b < c.N) (hn : b ∉ l) (hk : headK (nth ks b) = true) : LikeR c ks (l ++ [b]) (ringAddZ c b zs) := by
  refine ⟨h.ring.add hm hz hb hn ((h.kind hb).2 hk), fun x hx => ?_, fun x hx hxl => ?_⟩
  · rw [ringAdd_tag hm hz hx]
    by_cases e : x = b
    · subst e
      rw [if_pos rfl, h.tags x hx, if_neg hn, if_pos (by simp)]; omega
    · rw [if_neg e, h.tags x hx]
      simp [e]
  · have hxl' : x ∉ l ∧ x ≠ b := by simpa using hxl
    have ho : ∀ u, u = 6 ∨ u = 7 → RingOut c l b (adr c x u) := fun u hu => by
      have hu16 : u < 16 := by omega
      refine ⟨adr_reg' (by omega), adr_reg' (by omega), adr_reg' (by omega), fun e => ?_, fun y hy => ⟨fun e => ?_, fun e => ?_⟩⟩
      · have := (adr_i hm hu16 (by omega)).1 e; omega
      · have := (adr_i hm hu16 (by omega)).1 e
        rcases hy with rfl | hy
        · exact hxl'.2 this.1
        · exact hxl'.1 (by rw [this.1]; exact hy)
      · have := (adr_i hm hu16 (by omega)).1 e
        rcases hy with rfl | hy
        · exact hxl'.2 this.1
        · exact hxl'.1 (by rw [this.1]; exact hy)
    rw [ringAdd_out h.ring hz (ho 6 (Or.inl rfl)), ringAdd_out h.ring hz (ho 7 (Or.inr rfl))]
    exact h.idle x hx hxl'.1
theorem LikeR.cut {c : Cf} {ks : List Int} {l1 l2 : List Nat} {zs : List Int} {b : Nat} (h : LikeR c ks (l1 ++ b :: l2) zs) (hm : c.May) (hz : zs.length = c.size) : LikeR c ks (l1 ++ l2) (ringCutZ c b zs) := by
  have hb := h.ring.lt b (by simp)
  have hnd := h.ring.nd
  have hbn : b ∉ l1 ++ l2 := by
    rw [List.nodup_append] at hnd
    obtain ⟨n1, n2, n3⟩ := hnd
    obtain ⟨n4, n5⟩ := List.nodup_cons.1 n2
    intro hx
    rcases List.mem_append.1 hx with hx | hx
    · exact n3 b hx b (by simp) rfl
    · exact n4 hx
  refine ⟨h.ring.cut hm hz, fun x hx => ?_, fun x hx hxl => ?_⟩
  · rw [ringCut_tag hm hz hx]
    by_cases e : x = b
    · subst e
      rw [if_pos rfl, h.tags x hx, if_pos (by simp), if_neg hbn]; omega
    · rw [if_neg e, h.tags x hx]
      simp [e]
  · by_cases e : x = b
    · subst e; exact ringCut_own hm hz hx
    · have hxl' : x ∉ l1 ++ b :: l2 := by simp at hxl ⊢; exact ⟨hxl.1, e, hxl.2⟩
      have ho : ∀ u, u = 6 ∨ u = 7 → RingOut c (l1 ++ l2) b (adr c x u) := fun u hu => by
        have hu16 : u < 16 := by omega
        refine ⟨adr_reg' (by omega), adr_reg' (by omega), adr_reg' (by omega), fun e => ?_, fun y hy => ⟨fun e2 => ?_, fun e2 => ?_⟩⟩
        · have := (adr_i hm hu16 (by omega)).1 e; omega
        · have := (adr_i hm hu16 (by omega)).1 e2
          rcases hy with rfl | hy
          · exact e this.1
          · exact hxl (by rw [this.1]; exact hy)
        · have := (adr_i hm hu16 (by omega)).1 e2
          rcases hy with rfl | hy
          · exact e this.1
          · exact hxl (by rw [this.1]; exact hy)
      rw [ringCut_out h.ring hz (ho 6 (Or.inl rfl)), ringCut_out h.ring hz (ho 7 (Or.inr rfl))]
      exact h.idle x hx hxl'
theorem LikeR.links {c : Cf} {ks : List Int} {l : List Nat} {zs : List Int} (h : LikeR c ks l zs) {i : Nat} (hi : i < l.length) : nth zs (adr c l[i] 6) = rgAheadI (ints l) i ∧ nth zs (adr c l[i] 7) = nextI (ints l) i := by
  have hs : l = l.take i ++ l[i] :: l.drop (i + 1) := by rw [← List.drop_eq_getElem_cons hi, List.take_append_drop]
  have hr := h.ring
  rw [hs] at hr
  obtain ⟨h6, h7⟩ := hr.split
  refine ⟨h6.trans ?_, h7.trans ?_⟩
  · unfold rgAheadI
    by_cases e : i < 1
    · rw [if_pos e]
      have : i = 0 := by omega
      subst this; rfl
    · rw [if_neg e]
      obtain ⟨j, rfl⟩ : ∃ j, i = j + 1 := ⟨i - 1, by omega⟩
      rw [List.take_succ_eq_append_getElem (by omega), lstI_snoc]
      rw [show j + 1 - 1 = j from rfl, ints_nth (by omega)]
  · unfold nextI
    rw [ints_length]
    by_cases e : i + 1 < l.length
    · rw [if_pos e, List.drop_eq_getElem_cons e, ints_nth e]; rfl
    · rw [if_neg e, List.drop_eq_nil_of_le (by omega)]; rfl

end Go.Proofs.Ytdiegmbaiibndaa.Pk
