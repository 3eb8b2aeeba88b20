/-
  What stands in a block's tag; nothing where there is no block.
-/
import Derived.Test.YtljdbaddockfcaaGreatActs
namespace Go.Proofs.YtljdbaddockfcaaGreat.Pk
open Go.RowKit
set_option linter.unusedVariables false
set_option linter.unusedSimpArgs false

def askN (o : Option Nat) : Nat := match o with | some _ => 1 | none => 0
theorem St.ask_eq (s : St) (o : Option Nat) : s.ask o = ⟨s.zs, s.m + askN o⟩ := by cases o <;> rfl
theorem askN_le (o : Option Nat) : askN o ≤ 1 := by cases o <;> simp [askN]
/-- What stands in a block's tag, 0 where there is no block. -/
def tagI (c : Cf) (zs : List Int) (b : Int) : Int := (⟨zs, 0⟩ : St).at? (wordA c b 0)
theorem tagI_out {c : Cf} {zs : List Int} {b : Int} (h : ¬ (0 ≤ b ∧ b < (c.N : Int))) : tagI c zs b = 0 := by
  unfold tagI wordA bel
  rw [decide_eq_false h]; rfl
theorem tagI_in {c : Cf} {zs : List Int} {b : Nat} (hm : c.May) (h : b < c.N) : tagI c zs (b : Int) = nth zs (adr c b 0) := by
  unfold tagI
  have := adr_word (c := c) (b := b) (v := 0) h (by have := hm.w; omega)
  rw [show ((0 : Nat) : Int) = 0 from rfl] at this
  rw [this]; rfl
theorem wordTag (p : Pl) (c : Cf) (s : St) (b t : Int) (w : World) (hG : G w p c s) (ht : tagI c s.zs b = t) :
    Calls Tryz.prog 61 #[.pointer (some ⟨p.a, 0, none⟩), .int .i64 b, .int .i64 0] w (GP w p c ⟨s.zs, s.m + askN (wordA c b 0)⟩ (.int .u32 t)) := by
  subst ht
  have h := word_any p c s b 0 w hG
  rw [s.ask_eq] at h
  exact h
theorem tagI_bd {w : World} {p : Pl} {c : Cf} {s : St} (hG : G w p c s) (b : Int) : 0 ≤ tagI c s.zs b ∧ tagI c s.zs b ≤ 4294967295 := St.at?_wf (s := ⟨s.zs, 0⟩) hG.wf _

theorem Grd.tz {tg ts e : TypeId} {w : World} {p : Pl} {c : Cf} {s : St} {zs : List Int} {m : Nat} (h : Grd tg ts e w p c s) (hz : s.zs = zs) (hm : s.m = m) : Grd tg ts e w p c ⟨zs, m⟩ := by subst hz hm; exact h

end Go.Proofs.YtljdbaddockfcaaGreat.Pk
