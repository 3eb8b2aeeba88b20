/-
  Layer 11: the laws' opened ground; the chapter's example (of packages pool and obj that do what they must).
-/
import Derived.Test.YtgmbamehmecnlaaPool
import Derived.Test.YtgmbamehmecnlaaObj
namespace Go.Proofs.Ytgmbamehmecnlaa.Pk
open Go.RowKit
set_option linter.unusedVariables false
set_option linter.unusedSimpArgs false

theorem Opened.heap {c : Cf} {zs : List Int} (h : Opened c zs) : HeapAt c zs (List.range c.N) [] := ⟨h.1, fun o ho => absurd ho (by simp), by simp⟩
/-- A state of a heap that a law made. -/
def HSt (w : World) (p : Pl) (c : Cf) (zs : List Int) (pool : List Nat) (os : List Ob) (wr : World) : Prop :=
  ∃ m, G wr p c ⟨zs, m⟩ ∧ HeapAt c zs pool os ∧ (∀ k, inG p k → w.heap.size ≤ k) ∧ Below w.heap.size w wr
theorem HSt.wz {w wr : World} {p : Pl} {c : Cf} {zs : List Int} {pool : List Nat} {os : List Ob} (h : HSt w p c zs pool os wr) : Wz c zs := by obtain ⟨m, hG, _⟩ := h; exact hG.wz
theorem HSt.heap {w wr : World} {p : Pl} {c : Cf} {zs : List Int} {pool : List Nat} {os : List Ob} (h : HSt w p c zs pool os wr) : HeapAt c zs pool os := by obtain ⟨m, hG, hh, _⟩ := h; exact hh
theorem HSt.below {w wr : World} {p : Pl} {c : Cf} {zs : List Int} {pool : List Nat} {os : List Ob} (h : HSt w p c zs pool os wr) : Below w.heap.size w wr := by obtain ⟨m, hG, hh, _, hb⟩ := h; exact hb
theorem HSt.later {w wr w' : World} {p : Pl} {c : Cf} {zs : List Int} {pool : List Nat} {os : List Ob} (h : HSt w p c zs pool os wr) (hb : Below wr.heap.size wr w') : HSt w p c zs pool os w' := by
  obtain ⟨m, hG, hh, hp, hB⟩ := h
  exact ⟨m, hG.later hb, hh, hp, below_step hB hb⟩
theorem HSt.notG {w wr : World} {p : Pl} {c : Cf} {zs : List Int} {pool : List Nat} {os : List Ob} (h : HSt w p c zs pool os wr) {i : Nat} (hi : wr.heap.size ≤ i) : ¬ ofG p i := by
  obtain ⟨m, hG, hh, hp, hB⟩ := h
  intro hx
  have := hG.ofG_lt hx
  omega
/-- A call, in terms of such a state. -/
theorem HSt.act {w wr : World} {p : Pl} {c : Cf} {zs zs' : List Int} {pool pool' : List Nat} {os os' : List Ob} {f : FuncId} {args : List Value} {B : Nat} {v : Value} (h : HSt w p c zs pool os wr) (ha : Acts c f args zs B zs' v) (hh : HeapAt c zs' pool' os') :
    Calls Try.prog f (List.toArray (.pointer (some ⟨p.a, 0, none⟩) :: args)) wr fun e w' => e = .returned v ∧ HSt w p c zs' pool' os' w' ∧ Touch (inG p) wr w' := by
  obtain ⟨m, hG, _, hp, hB⟩ := h
  obtain ⟨d, _, H⟩ := ha
  refine (H p m wr hG).mono ?_
  rintro e w' ⟨rfl, hG', hT⟩
  exact ⟨rfl, ⟨_, hG', hh, hp, hB.trans (hT.below hp hB.size)⟩, hT⟩
theorem HSt.look {w wr : World} {p : Pl} {c : Cf} {zs : List Int} {pool : List Nat} {os : List Ob} {f : FuncId} {args : List Value} {Q : World → Ending → World → Prop} (h : HSt w p c zs pool os wr) (ha : Looks c f args zs Q) :
    Calls Try.prog f (List.toArray (.pointer (some ⟨p.a, 0, none⟩) :: args)) wr (Q wr) := by
  obtain ⟨m, hG, _⟩ := h
  exact ha p m wr hG

end Go.Proofs.Ytgmbamehmecnlaa.Pk
