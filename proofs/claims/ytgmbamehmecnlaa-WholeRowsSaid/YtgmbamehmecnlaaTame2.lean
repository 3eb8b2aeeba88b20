/-
  A region that draws its order: facts in the text's order, then one call, whatever it does, then what looks at no memory.
-/
import Derived.Test.YtgmbamehmecnlaaTame
namespace Go.Proofs.Ytgmbamehmecnlaa.Pk
open Go.RowKit

section
variable {P : Program} {Q : Exit → Act → World → Prop}
/-- What is left looks at no memory: its values, one behind the other. -/
def takesT (P : Program) (Q : Exit → Act → World → Prop) : List Oper → Act → World → Prop
  | [], a, w => Q .normal a w
  | o :: l, a, w => ∃ v t, o.dst = some t ∧ o.guard = none ∧ (∀ w, (execOp a.eval o).run P w = .ok (.value v) w) ∧ takesT P Q l (a.put o.dst v) w
def freesB (ops : Array Oper) : Nat → Nat → Array Bool → Bool
  | 0, _, listed => (Region.ready .any ops listed).isEmpty
  | n + 1, k, listed => (Region.free .any ops listed k && (Region.ready .any ops listed).contains k) && freesB ops n (k + 1) (listed.setIfInBounds k true)
theorem wpAny_takes {ops : Array Oper} (hsel : Region.noSelect ops = true) (hQ : ∀ c (a : Act) (d : Tmp) (v : Value) (w : World), Q (.panic c) (a.put (some d) v) w → Q (.panic c) a w) :
    ∀ (l : List Oper) (k : Nat) (listed : Array Bool) (a : Act) (w : World), (∀ j, l[j]? = ops[k + j]?) → freesB ops l.length k listed = true → takesT P Q l a w → wpAny P .any ops Q l.length listed a w
  | [], _, _, _, _, _, hB, h => ⟨by simpa [freesB] using hB, h⟩
  | o :: l, k, listed, a, w, hl, hB, ⟨v, t, hd, hg, hv, h⟩ => by
    have h0 : ops[k]? = some o := by simpa using (hl 0).symm
    simp only [List.length_cons, freesB, Bool.and_eq_true] at hB
    exact wpAny_take (i := k) (v := v) h0 hsel hB.1.1 hB.1.2 (fun c a w => by rw [hd]; exact hQ c a t v w) (.inl ⟨by unfold Region.wanted; rw [hg], hv⟩)
      (wpAny_takes hsel hQ l (k + 1) _ _ w (fun j => by have := hl (j + 1); simpa [Nat.add_assoc, Nat.add_comm 1 j] using this) hB.2 h)
/-- .. with facts; then one call; then what looks at no memory. -/
theorem wp_region_tame_one {id : Nat} {L : List Oper} {a : Act} {w : World} (F : List Fact) (hm : P.follows .mixedOrders = true) (hB : tidyB L F.length a.tmps.size = true) {o : Oper} {l : List Oper} (hd : L.drop F.length = o :: l) (hg : o.guard = none)
    (hr : Region.ready .any L.toArray (doneTo L.length F.length) = [F.length]) (hf : freesB L.toArray l.length (F.length + 1) ((doneTo L.length F.length).setIfInBounds F.length true) = true)
    (hQ : ∀ c (a : Act) (d : Tmp) (v : Value) (w : World), Q (.panic c) (a.put (some d) v) w → Q (.panic c) a w)
    (h : ∀ (ops : Array Oper) (K : Act → World → Prop), ops = L.toArray → (∀ a' w', (∀ K2 : Act → World → Prop, (∀ a w, takesT P Q l a w → K2 a w) → o.wp P a' w' K2 Q) → K a' w') → walkT P ops (fun w' => Below w.heap.size w w') K L F a []) :
    (Code.region id L.toArray true).wp P Q a w :=
  wp_region_tame F hm hB (h _ _ rfl fun a' w' h1 => by
    have hlen : L.length - F.length = l.length + 1 := by rw [← List.length_drop, hd]; rfl
    have hat : ∀ j, (o :: l)[j]? = L[F.length + j]? := fun j => by rw [← hd, List.getElem?_drop]
    rw [hlen]
    refine wpAny_all hr (by simp) fun i hi => ?_
    have hik : i = F.length := by simpa using hi
    subst hik
    have h0 : L.toArray[F.length]? = some o := by have := hat 0; simpa using this.symm
    refine wpOp_step h0 fun K' hK' => ?_
    rw [if_pos (by unfold Region.wanted; rw [hg])]
    refine h1 K' fun a2 w2 h2 => hK' _ _ (wpAny_takes (tidy_parts hB).1 hQ l (F.length + 1) _ a2 w2 (fun j => ?_) hf h2)
    have := hat (j + 1)
    simpa [Nat.add_assoc, Nat.add_comm 1 j] using this)
theorem takes_is {o : Oper} {l : List Oper} {a : Act} {w : World} (v : Value) {t : Tmp} (hd : o.dst = some t) (hg : o.guard = none) (hv : ∀ w, (execOp a.eval o).run P w = .ok (.value v) w) {a' : Act} (ha : a.put o.dst v = a') (h : takesT P Q l a' w) : takesT P Q (o :: l) a w :=
  ⟨v, t, hd, hg, hv, ha ▸ h⟩
theorem takes_nil {a : Act} {w : World} (h : Q .normal a w) : takesT P Q [] a w := h
end
end Go.Proofs.Ytgmbamehmecnlaa.Pk
