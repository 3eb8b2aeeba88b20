/-
  Layer 9: the law's own tags, and the ground that it makes of kinds.
-/
import Derived.Test.YtgmbamehmecnlaaRing
import Derived.Test.YtgmbamehmecnlaaTagMath
import Derived.Test.YtgmbamehmecnlaaBase
import Derived.BigQuiet
namespace Go.Proofs.Ytgmbamehmecnlaa.Pk
open Go.RowKit
set_option linter.unusedVariables false
set_option linter.unusedSimpArgs false

/-- Is a number one of a head's kind? -/
def headK (k : Int) : Bool := k % 4 == 1 || k % 4 == 2
def tgC (k : Int) : Int := if headK k = true then k / 4 % 2 else 0
def tgS (k : Int) : Int := if headK k = true then k / 8 % 2 else 0
/-- The law's tag's word. -/
def tagW (k : Int) : Int := packI (k % 4) (tgC k) 0 (tgS k) 0 0 0
theorem headK_iff {k : Int} : headK k = true ↔ (k % 4 = 1 ∨ k % 4 = 2) := by unfold headK; simp
theorem tag_right (k : Int) : RightT (k % 4) (tgC k) 0 (tgS k) 0 0 0 := by
  unfold RightT tgC tgS
  by_cases h : headK k = true
  · rw [if_pos h, if_pos h]; rw [headK_iff] at h; omega
  · rw [if_neg h, if_neg h]; rw [headK_iff] at h; omega
theorem tag_bits (k : Int) : uK (tagW k) = k % 4 ∧ uG (tagW k) = 0 ∧ TagOk (tagW k) := by
  have h := tag_right k
  have hu := unpack_pack h
  refine ⟨hu.1, ?_, ?_⟩
  · unfold tagW uG packI; unfold RightT at h; omega
  · refine ⟨?_, ?_, ?_⟩
    · unfold tagW
      rw [hu.1, hu.2.1, hu.2.2.1, hu.2.2.2.1, hu.2.2.2.2.1, hu.2.2.2.2.2.1, hu.2.2.2.2.2.2]
      exact h
    · unfold tagW packI; unfold RightT at h; omega
    · unfold tagW packI; unfold RightT at h; omega
theorem tag_head {k : Int} : HeadT (tagW k) ↔ headK k = true := by unfold HeadT; rw [(tag_bits k).1, headK_iff]
/-- The words of the ground that the law makes, when j tags are laid. -/
def Made (c : Cf) (ks : List Int) (j : Nat) (zs : List Int) : Prop :=
  (∀ b, b < c.N → nth zs (adr c b 0) = if b < j then tagW (nth ks b) else 0) ∧ ∀ i, (∀ b, b < c.N → i ≠ adr c b 0) → nth zs i = 0
theorem Made.step {c : Cf} {ks : List Int} {j : Nat} {zs : List Int} (h : Made c ks j zs) (hm : c.May) (hz : zs.length = c.size) (hj : j < c.N) : Made c ks (j + 1) (zs.set (adr c j 0) (tagW (nth ks j))) := by
  have hl := adr_le hm hj (show 0 < 16 by omega)
  refine ⟨fun b hb => ?_, fun i hi => ?_⟩
  · rw [nth_set (by omega)]
    simp only [adr_i hm (show 0 < 16 by omega) (show 0 < 16 by omega), and_true]
    by_cases e : b = j
    · rw [if_pos e, if_pos (by omega), e]
    · rw [if_neg e, h.1 b hb]
      by_cases hlt : b < j
      · rw [if_pos hlt, if_pos (by omega)]
      · rw [if_neg hlt, if_neg (by omega)]
  · rw [nth_set (by omega), if_neg (hi j hj)]
    exact h.2 i hi
end Go.Proofs.Ytgmbamehmecnlaa.Pk
