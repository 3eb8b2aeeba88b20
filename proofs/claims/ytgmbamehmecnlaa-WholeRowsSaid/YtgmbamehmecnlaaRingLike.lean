/-
  Layer 9: how the law's ground stands beside a row: registers, links and tags.
-/
import Derived.Test.YtgmbamehmecnlaaRingLaw
namespace Go.Proofs.Ytgmbamehmecnlaa.Pk
open Go.RowKit
set_option linter.unusedVariables false
set_option linter.unusedSimpArgs false

/-- The ring stands as the row says, and all tags are those of the kinds. -/
structure LikeR (c : Cf) (ks : List Int) (l : List Nat) (zs : List Int) : Prop where
  ring : RingAt c zs l
  tags : ∀ b, b < c.N → nth zs (adr c b 0) = tagW (nth ks b) + if b ∈ l then 64 else 0
  idle : ∀ b, b < c.N → b ∉ l → nth zs (adr c b 6) = 0 ∧ nth zs (adr c b 7) = 0
theorem LikeR.kind {c : Cf} {ks : List Int} {l : List Nat} {zs : List Int} (h : LikeR c ks l zs) {b : Nat} (hb : b < c.N) : HeadT (nth zs (adr c b 0)) ↔ headK (nth ks b) = true := by
  rw [h.tags b hb, ← tag_head]
  unfold HeadT uK
  by_cases e : b ∈ l
  · rw [if_pos e]; omega
  · rw [if_neg e]; omega
theorem LikeR.add {c : Cf} {ks : List Int} {l : List Nat} {zs : List Int} {b : Nat} (h : LikeR c ks l zs) (hm : c.May) (hz : zs.length = c.size) (hb : b < c.N) (hn : b ∉ l) (hk : headK (nth ks b) = true) : LikeR c ks (l ++ [b]) (ringAddZ c b zs) := by
  refine ⟨h.ring.add hm hz hb hn ((h.kind hb).2 hk), fun x hx => ?_, fun x hx hxl => ?_⟩
  · rw [ringAdd_tag hm hz hx]
    by_cases e : x = b
    · subst e
      rw [if_pos rfl, h.tags x hx, if_neg hn, if_pos (by simp)]; omega
    · rw [if_neg e, h.tags x hx]
      simp [e]
  · have hxl' : x ∉ l ∧ x ≠ b := by simpa using hxl
    have ho : ∀ u, u = 6 ∨ u = 7 → RingOut c l b (adr c x u) := fun u hu => by
      have hu16 : u < 16 := by omega
      refine ⟨adr_reg' (by omega), adr_reg' (by omega), adr_reg' (by omega), fun e => ?_, fun y hy => ⟨fun e => ?_, fun e => ?_⟩⟩
      · have := (adr_i hm hu16 (by omega)).1 e; omega
      · have := (adr_i hm hu16 (by omega)).1 e
        rcases hy with rfl | hy
        · exact hxl'.2 this.1
        · exact hxl'.1 (by rw [this.1]; exact hy)
      · have := (adr_i hm hu16 (by omega)).1 e
        rcases hy with rfl | hy
        · exact hxl'.2 this.1
        · exact hxl'.1 (by rw [this.1]; exact hy)
    rw [ringAdd_out h.ring hz (ho 6 (Or.inl rfl)), ringAdd_out h.ring hz (ho 7 (Or.inr rfl))]
    exact h.idle x hx hxl'.1
theorem LikeR.cut {c : Cf} {ks : List Int} {l1 l2 : List Nat} {zs : List Int} {b : Nat} (h : LikeR c ks (l1 ++ b :: l2) zs) (hm : c.May) (hz : zs.length = c.size) : LikeR c ks (l1 ++ l2) (ringCutZ c b zs) := by
  have hb := h.ring.lt b (by simp)
  have hnd := h.ring.nd
  have hbn : b ∉ l1 ++ l2 := by
    rw [List.nodup_append] at hnd
    obtain ⟨n1, n2, n3⟩ := hnd
    obtain ⟨n4, n5⟩ := List.nodup_cons.1 n2
    intro hx
    rcases List.mem_append.1 hx with hx | hx
    · exact n3 b hx b (by simp) rfl
    · exact n4 hx
  refine ⟨h.ring.cut hm hz, fun x hx => ?_, fun x hx hxl => ?_⟩
  · rw [ringCut_tag hm hz hx]
    by_cases e : x = b
    · subst e
      rw [if_pos rfl, h.tags x hx, if_pos (by simp), if_neg hbn]; omega
    · rw [if_neg e, h.tags x hx]
      simp [e]
  · by_cases e : x = b
    · subst e; exact ringCut_own hm hz hx
    · have hxl' : x ∉ l1 ++ b :: l2 := by simp at hxl ⊢; exact ⟨hxl.1, e, hxl.2⟩
      have ho : ∀ u, u = 6 ∨ u = 7 → RingOut c (l1 ++ l2) b (adr c x u) := fun u hu => by
        have hu16 : u < 16 := by omega
        refine ⟨adr_reg' (by omega), adr_reg' (by omega), adr_reg' (by omega), fun e => ?_, fun y hy => ⟨fun e2 => ?_, fun e2 => ?_⟩⟩
        · have := (adr_i hm hu16 (by omega)).1 e; omega
        · have := (adr_i hm hu16 (by omega)).1 e2
          rcases hy with rfl | hy
          · exact e this.1
          · exact hxl (by rw [this.1]; exact hy)
        · have := (adr_i hm hu16 (by omega)).1 e2
          rcases hy with rfl | hy
          · exact e this.1
          · exact hxl (by rw [this.1]; exact hy)
      rw [ringCut_out h.ring hz (ho 6 (Or.inl rfl)), ringCut_out h.ring hz (ho 7 (Or.inr rfl))]
      exact h.idle x hx hxl'
end Go.Proofs.Ytgmbamehmecnlaa.Pk
