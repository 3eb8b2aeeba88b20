/-
  Layer 12: the laws' opened ground and the document's world beside it; the chapter's example.
-/
import Derived.Test.YtgmbamehmecnlaaCountMath
import Derived.Test.YtgmbamehmecnlaaObjApartF
import Derived.Test.YtgmbamehmecnlaaPoolDo
namespace Go.Proofs.Ytgmbamehmecnlaa.Pk
open Go.RowKit
set_option linter.unusedVariables false
set_option linter.unusedSimpArgs false

/-- A count is set, the rest stays as it was. -/
theorem HSt.setOwn {w wr : World} {p : Pl} {c : Cf} {zs : List Int} {pool : List Nat} {os : List Ob} {o : Ob} {v : Nat} (h : HSt w p c zs pool os wr) (hm : c.May) (ho : o ∈ os) (h3 : 3 ≤ v) (h8 : v < 8) (x : Int) : HeapAt c (zs.set (adr c o.h v) x) pool os := (h.heap.setOwn hm h.wz.len ho h3 h8 x).1

/-- The counts and the fields behind a step. -/
def Cnt (c : Cf) (zs zs' : List Int) (os : List Ob) (o : Ob) (k : Int) : Prop :=
  nth zs' (adr c o.h 3) = k ∧ (∀ o', o' ∈ os → o'.h ≠ o.h → nth zs' (adr c o'.h 3) = nth zs (adr c o'.h 3)) ∧ (∀ o' i, o' ∈ os → i < o'.f → fldV c zs' o' i = fldV c zs o' i)
theorem Cnt.refl (c : Cf) (zs : List Int) (os : List Ob) (o : Ob) : Cnt c zs zs os o (nth zs (adr c o.h 3)) := ⟨rfl, fun _ _ _ => rfl, fun _ _ _ _ => rfl⟩
theorem Cnt.trans {c : Cf} {a b d : List Int} {os : List Ob} {o : Ob} {k l : Int} (h : Cnt c a b os o k) (h' : Cnt c b d os o l) : Cnt c a d os o l :=
  ⟨h'.1, fun o' h1 h2 => (h'.2.1 o' h1 h2).trans (h.2.1 o' h1 h2), fun o' i h1 h2 => (h'.2.2 o' i h1 h2).trans (h.2.2 o' i h1 h2)⟩
theorem cnt_set {c : Cf} {zs : List Int} {pool : List Nat} {os : List Ob} {o : Ob} (h : HeapAt c zs pool os) (hm : c.May) (hz : zs.length = c.size) (ho : o ∈ os) (x : Int) : Cnt c zs (zs.set (adr c o.h 3) x) os o x := by
  have hw := hm.w
  refine ⟨nth_set_eq (by rw [hz]; exact adr_lt (h.obs o ho).hlt (by omega)) x, fun o' _ hne => nth_set_ne (fun e => hne (adr_inj (by omega) (by omega) e).1.symm) x, (h.setOwn hm hz ho (v := 3) (by decide) (by decide) x).2⟩
/-- A call that counts, in terms of a state. -/
theorem HSt.step {w wr : World} {p : Pl} {c : Cf} {zs : List Int} {pool : List Nat} {os : List Ob} {o : Ob} {f : FuncId} {args : List Value} {B : Nat} {v : Value} (h : HSt w p c zs pool os wr) (hm : c.May) (ho : o ∈ os) (x : Int) (ha : Acts c f args zs B (zs.set (adr c o.h 3) x) v) :
    Calls Try.prog f (List.toArray (.pointer (some ⟨p.a, 0, none⟩) :: args)) wr fun e w' => ∃ zs', e = .returned v ∧ HSt w p c zs' pool os w' ∧ Cnt c zs zs' os o x ∧ Touch (inG p) wr w' := by
  refine (h.act ha (h.setOwn hm ho (v := 3) (by decide) (by decide) x)).mono ?_
  rintro e w' ⟨rfl, h', hT⟩
  exact ⟨_, rfl, h', cnt_set h.heap hm h.wz.len ho x, hT⟩
section
variable {w wr : World} {p : Pl} {c : Cf} {zs : List Int} {pool : List Nat} {os : List Ob} {o : Ob}
theorem of_step (C : CountFns) (h : HSt w p c zs pool os wr) (ho : o ∈ os) (k r : Int) (hk : nth zs (adr c o.h 3) = k) (hr : (o.h : Int) + 1 = r) :
    Calls Try.prog 15 #[.pointer (some ⟨p.a, 0, none⟩), .int .i64 r] wr fun e w' => e = .returned (.int .i64 k) ∧ HSt w p c zs pool os w' ∧ Touch (inG p) wr w' := by
  have A := C.of_yes c zs pool os o h.wz h.heap ho
  rw [hr, hk] at A
  refine (h.act A h.heap).mono ?_
  rintro e w' ⟨rfl, h', hT⟩
  exact ⟨rfl, h', hT⟩
end

end Go.Proofs.Ytgmbamehmecnlaa.Pk
