/-
  Words of an object's head that are no fields: its count, its shadow, its links, its marks. What is left when one is set. No program in sight.
-/
import Derived.Test.YtgmbamehmecnlaaObj
namespace Go.Proofs.Ytgmbamehmecnlaa.Pk
open Go.RowKit
set_option linter.unusedVariables false
set_option linter.unusedSimpArgs false

section
variable {c : Cf} {zs : List Int} {o o' : Ob} {pool : List Nat} {os : List Ob}
theorem Ob.head_mem (o : Ob) : o.h ∈ o.blocks := by unfold Ob.blocks; simp
/-- No field lies in the words 0 to 7 of a head. -/
theorem HeapAt.field_ne (h : HeapAt c zs pool os) (hm : c.May) (ho : o ∈ os) (ho' : o' ∈ os) {i a v : Nat} (hi : i < o'.f) (ha : fieldA c o' i = some a) (hv : v < 8) : a ≠ adr c o.h v := by
  have hw := hm.w
  unfold fieldA at ha
  cases hp : fieldP c o' i with
  | none => rw [hp] at ha; cases ha
  | some q =>
    rw [hp] at ha
    simp at ha
    obtain ⟨q1, q2, q3⟩ := fieldP_off hm hi hp
    intro e
    rw [← ha] at e
    obtain ⟨e1, e2⟩ := adr_inj q2 (by omega) e
    have hmem := fieldP_mem hp
    rw [e1] at hmem
    obtain rfl := h.own ho ho' o.head_mem hmem
    by_cases hs : o.f ≤ c.W - 8
    · have := q3 e1 hs
      omega
    · unfold fieldP at hp
      rw [if_neg hs] at hp
      split at hp
      · rename_i b hb
        cases hp
        simp at e1
        exact (List.nodup_cons.1 (h.ownB ho)).1 (by rw [← e1]; exact Ob.mem_leaves.2 (List.mem_of_getElem? hb))
      · cases hp
/-- One of the words 3 to 7 of a head is set. -/
theorem HeapAt.setOwn (h : HeapAt c zs pool os) (hm : c.May) (hz : zs.length = c.size) (ho : o ∈ os) {v : Nat} (h3 : 3 ≤ v) (h8 : v < 8) (x : Int) :
    HeapAt c (zs.set (adr c o.h v) x) pool os ∧ (∀ o' i, o' ∈ os → i < o'.f → fldV c (zs.set (adr c o.h v) x) o' i = fldV c zs o' i) := by
  have hw := hm.w
  have hA := h.obs o ho
  have hO : BlkOnly c o.h zs (zs.set (adr c o.h v) x) := BlkOnly.set (by omega) x
  have hne : ∀ b u, u < c.W → (b ≠ o.h ∨ u ≠ v) → nth (zs.set (adr c o.h v) x) (adr c b u) = nth zs (adr c b u) := fun b u hu hn => by
    rw [nth_set_ne]
    intro e
    have := adr_inj (by omega) hu e
    rcases hn with hn | hn
    · exact hn this.1.symm
    · exact hn this.2.symm
  refine ⟨⟨h.pl.only hm (h.notPool ho o.head_mem) hO, fun o' ho' => ?_, h.perm⟩, fun o' i ho' hi => ?_⟩
  · have hA' := h.obs o' ho'
    refine hA'.congr ?_ ?_ ?_ (fun j hj => ?_) (fun b hb => ?_)
    · rw [hne _ 0 (by omega) (.inr (by omega))]; exact ⟨hA'.tok, rfl⟩
    · exact hne _ 1 (by omega) (.inr (by omega))
    · exact hne _ 2 (by omega) (.inr (by omega))
    · have hl := hA'.lvW hm
      exact hne _ (8 + j) (by omega) (.inr (by omega))
    · exact hne _ 0 (by omega) (.inr (by omega))
  · unfold fldV
    cases hf : fieldA c o' i with
    | none => rfl
    | some a => exact nth_set_ne (fun e => h.field_ne hm ho ho' hi hf h8 e.symm) x
/-- A head's tag is set, of the same kind. -/
theorem HeapAt.setTag (h : HeapAt c zs pool os) (hm : c.May) (hz : zs.length = c.size) (ho : o ∈ os) {x : Int} (hx : TagOk x) (hk : uK x = uK (nth zs (adr c o.h 0))) :
    HeapAt c (zs.set (adr c o.h 0) x) pool os ∧ (∀ o' i, o' ∈ os → i < o'.f → fldV c (zs.set (adr c o.h 0) x) o' i = fldV c zs o' i) := by
  have hw := hm.w
  have hA := h.obs o ho
  have hO : BlkOnly c o.h zs (zs.set (adr c o.h 0) x) := BlkOnly.set (by omega) x
  have hne : ∀ b u, u < c.W → (b ≠ o.h ∨ u ≠ 0) → nth (zs.set (adr c o.h 0) x) (adr c b u) = nth zs (adr c b u) := fun b u hu hn => by
    rw [nth_set_ne]
    intro e
    have := adr_inj (by omega) hu e
    rcases hn with hn | hn
    · exact hn this.1.symm
    · exact hn this.2.symm
  have hself : nth (zs.set (adr c o.h 0) x) (adr c o.h 0) = x := nth_set_eq (by rw [hz]; exact adr_lt hA.hlt (by omega)) x
  refine ⟨⟨h.pl.only hm (h.notPool ho o.head_mem) hO, fun o' ho' => ?_, h.perm⟩, fun o' i ho' hi => ?_⟩
  · have hA' := h.obs o' ho'
    refine hA'.congr ?_ ?_ ?_ (fun j hj => ?_) (fun b hb => ?_)
    · by_cases e : o'.h = o.h
      · rw [e, hself, hk]; exact ⟨hx, rfl⟩
      · rw [hne _ 0 (by omega) (.inl e)]; exact ⟨hA'.tok, rfl⟩
    · exact hne _ 1 (by omega) (.inr (by omega))
    · exact hne _ 2 (by omega) (.inr (by omega))
    · have hl := hA'.lvW hm
      exact hne _ (8 + j) (by omega) (.inr (by omega))
    · refine hne _ 0 (by omega) (.inl ?_)
      intro e
      have hb' : b ∈ o'.blocks := by unfold Ob.blocks; exact List.mem_cons_of_mem _ (Ob.mem_leaves.2 hb)
      obtain rfl := h.own ho ho' o.head_mem (by rw [← e]; exact hb')
      exact (List.nodup_cons.1 (h.ownB ho)).1 (by rw [← e]; exact Ob.mem_leaves.2 hb)
  · unfold fldV
    cases hf : fieldA c o' i with
    | none => rfl
    | some a => exact nth_set_ne (fun e => h.field_ne hm ho ho' hi hf (v := 0) (by omega) e.symm) x
theorem lists_same {c : Cf} {zs zs' : List Int} {os : List Ob} {o : Ob} (h : ∀ o' i, o' ∈ os → i < o'.f → fldV c zs' o' i = fldV c zs o' i) (ho : o ∈ os) : ptrL c zs' o = ptrL c zs o ∧ dataL c zs' o = dataL c zs o := by
  constructor
  · unfold ptrL
    refine List.map_congr_left (fun j hj => ?_)
    have hj' := List.mem_range.1 hj
    exact h o j ho (by unfold Ob.f; omega)
  · unfold dataL
    refine List.map_congr_left (fun j hj => ?_)
    have hj' := List.mem_range.1 hj
    exact h o _ ho (by unfold Ob.f; omega)
end

/-- What package count's functions return (a bundle). -/
structure CountFns : Prop where
  of_yes : ∀ (c : Cf) (zs : List Int) (pool : List Nat) (os : List Ob) (o : Ob), Wz c zs → HeapAt c zs pool os → o ∈ os → Acts c 15 [.int .i64 ((o.h : Int) + 1)] zs 8 zs (.int .i64 (nth zs (adr c o.h 3)))
  of_no : ∀ (c : Cf) (zs : List Int) (pool : List Nat) (os : List Ob) (r : Int), Wz c zs → HeapAt c zs pool os → In64 r → obAt os r = none → Acts c 15 [.int .i64 r] zs 8 zs (.int .i64 0)
  up_yes : ∀ (c : Cf) (zs : List Int) (pool : List Nat) (os : List Ob) (o : Ob), Wz c zs → HeapAt c zs pool os → o ∈ os → nth zs (adr c o.h 3) < 4294967295 → Acts c 13 [.int .i64 ((o.h : Int) + 1)] zs 8 (zs.set (adr c o.h 3) (nth zs (adr c o.h 3) + 1)) (.tuple #[.int .i64 (nth zs (adr c o.h 3) + 1), .bool true])
  up_max : ∀ (c : Cf) (zs : List Int) (pool : List Nat) (os : List Ob) (o : Ob), Wz c zs → HeapAt c zs pool os → o ∈ os → ¬ nth zs (adr c o.h 3) < 4294967295 → Acts c 13 [.int .i64 ((o.h : Int) + 1)] zs 8 zs (.tuple #[.int .i64 0, .bool false])
  up_no : ∀ (c : Cf) (zs : List Int) (pool : List Nat) (os : List Ob) (r : Int), Wz c zs → HeapAt c zs pool os → In64 r → obAt os r = none → Acts c 13 [.int .i64 r] zs 8 zs (.tuple #[.int .i64 0, .bool false])
  down_yes : ∀ (c : Cf) (zs : List Int) (pool : List Nat) (os : List Ob) (o : Ob), Wz c zs → HeapAt c zs pool os → o ∈ os → nth zs (adr c o.h 3) ≠ 0 → Acts c 14 [.int .i64 ((o.h : Int) + 1)] zs 8 (zs.set (adr c o.h 3) (nth zs (adr c o.h 3) - 1)) (.tuple #[.int .i64 (nth zs (adr c o.h 3) - 1), .bool true])
  down_zero : ∀ (c : Cf) (zs : List Int) (pool : List Nat) (os : List Ob) (o : Ob), Wz c zs → HeapAt c zs pool os → o ∈ os → nth zs (adr c o.h 3) = 0 → Acts c 14 [.int .i64 ((o.h : Int) + 1)] zs 8 zs (.tuple #[.int .i64 0, .bool false])
  down_no : ∀ (c : Cf) (zs : List Int) (pool : List Nat) (os : List Ob) (r : Int), Wz c zs → HeapAt c zs pool os → In64 r → obAt os r = none → Acts c 14 [.int .i64 r] zs 8 zs (.tuple #[.int .i64 0, .bool false])
  see_yes : ∀ (c : Cf) (zs : List Int) (pool : List Nat) (os : List Ob) (o : Ob), Wz c zs → HeapAt c zs pool os → o ∈ os → Looks c 18 [.int .i64 ((o.h : Int) + 1)] zs (fun w e w' => e = .returned (.int .i64 (nth zs (adr c o.h 3))) ∧ Below w.heap.size w w')
  see_no : ∀ (c : Cf) (zs : List Int) (pool : List Nat) (os : List Ob) (r : Int), Wz c zs → HeapAt c zs pool os → In64 r → obAt os r = none → Looks c 18 [.int .i64 r] zs (fun w e w' => e = .returned (.int .i64 0) ∧ Below w.heap.size w w')

end Go.Proofs.Ytgmbamehmecnlaa.Pk
