/-
  Texts laid together: RefW, RefW2, RefW3.
-/
import Derived.Test.YtljdbaddockfcaaGreatPoolDoEtc
import Derived.Test.YtljdbaddockfcaaGreatRefChain
import Derived.OwnWalk
import Derived.BigRegion
import Derived.Test.YtljdbaddockfcaaGreatChainsEtc
/-
  The document's functions of layers 12 and 13 over its world: who is found, what is counted and marked.
-/
namespace Go.Proofs.YtljdbaddockfcaaGreat.Pk
open Go.RowKit
set_option linter.unusedVariables false
set_option linter.unusedSimpArgs false
set_option maxRecDepth 100000

section
variable {w w' : World} {lo : Nat} {lab : Nat → Nat} {a : WA} {D : Wd} {i : Nat} {t : Th} {x : TA} {n v : Nat} {cl : List Nat} {ts : List Th}
theorem HAt.at (h : HAt w lo lab a n v cl ts) (ht : ts[i]? = some t) : ∃ x, a.tas[i]? = some x := by
  have := (List.getElem?_eq_some_iff.1 ht).1
  exact ⟨a.tas[i]'(by rw [h.len]; exact this), by simp⟩
/-! ### Who is black, who is dead -/
/-! ### Marks are set -/
/-- A world that lies there, wherever its parts do. -/
def WRep (w : World) (lo q : Nat) (D : Wd) : Prop := ∃ lab a, WA.q a = q ∧ WAt w lo lab a D
end
end Go.Proofs.YtljdbaddockfcaaGreat.Pk

/-
  The document's functions of layer 13 that change marks, and an epoch's numbers.
-/
namespace Go.Proofs.YtljdbaddockfcaaGreat.Pk
open Go.RowKit
set_option linter.unusedVariables false
set_option linter.unusedSimpArgs false
set_option maxRecDepth 100000

section
variable {w w' : World} {lo : Nat} {lab : Nat → Nat} {a : WA} {D : Wd} {i : Nat} {t : Th} {x : TA} {n v : Nat} {cl : List Nat} {ts : List Th}
theorem set_self_get {α : Type} {l : List α} {i : Nat} {y : α} (h : l[i]? = some y) : l.set i y = l := by
  apply List.ext_getElem?
  intro j
  by_cases e : i = j
  · subst e
    rw [List.getElem?_set_self ((List.getElem?_eq_some_iff.1 h).1), h]
  · rw [List.getElem?_set_ne e]
theorem WAt.drew (h : WAt w lo lab a D) : WAt w.drew lo lab a D := h.touch (X := fun _ => False) (Touch.refl _ _).drew (fun _ _ _ => id)
theorem WAt.ne (h : WAt w lo lab a D) (ht : D.ts[i]? = some t) (hx : a.tas[i]? = some x) : ¬ x.mb = a.q ∧ ¬ a.q = x.mb := by
  have h1 := (h.mb i t x ht hx).2.2
  have h2 := h.lq.2
  constructor <;> (intro e; have := congrArg lab e; omega)
/-! ### Deepen, Lighten -/
/-! ### Begin, Move -/
end
end Go.Proofs.YtljdbaddockfcaaGreat.Pk

/-
  The document's functions of layers 12 and 13: who is touched, whose field was counted, all references.
-/
namespace Go.Proofs.YtljdbaddockfcaaGreat.Pk
open Go.RowKit
set_option linter.unusedVariables false
set_option linter.unusedSimpArgs false
set_option maxRecDepth 100000

section
variable {w w' : World} {lo : Nat} {lab : Nat → Nat} {a : WA} {D : Wd} {i : Nat} {t : Th} {x : TA} {n v : Nat} {cl : List Nat} {ts : List Th}
/-! ### Counted -/
/-! ### Refs -/
def refsL (l : List Th) : List Int := l.flatMap (fun t => if t.ended then [] else [(t.h : Int) + 1])
def Wd.refs (D : Wd) : List Int := refsL D.ts
end
end Go.Proofs.YtljdbaddockfcaaGreat.Pk
