/-
  Arrays of a call's own, of one-cell elements. No program in sight.
-/
import Derived.Test.YtgfpcamgebnfmaaTouch
import Derived.Laws.MakeOwn
namespace Go.Proofs.Ytgfpcamgebnfmaa.Pk
open Go.RowKit
set_option linter.unusedVariables false
set_option linter.unusedSimpArgs false

/-- An array by its elements. -/
def arrV (f : Nat → Value) (n : Nat) : Array Value := ((List.range n).map f).toArray
theorem arrV_size (f : Nat → Value) (n : Nat) : (arrV f n).size = n := by simp [arrV]
theorem arrV_get {f : Nat → Value} {n i : Nat} (h : i < n) : (arrV f n)[i]? = some (f i) := by simp [arrV, h]
theorem arrV_set (f : Nat → Value) (n i : Nat) (v : Value) : (arrV f n).setIfInBounds i v = arrV (fun j => if j = i then v else f j) n := by
  unfold arrV
  apply Array.toList_inj.1
  rw [Array.toList_setIfInBounds]
  apply List.ext_getElem
  · simp
  · intro j h1 h2
    have hj : j < n := by simpa using h2
    simp [List.getElem_set]
    by_cases e : i = j
    · subst e; simp
    · have : ¬ j = i := fun h => e h.symm
      simp [e, this]
theorem arrV_congr {f g : Nat → Value} {n : Nat} (h : ∀ i, i < n → f i = g i) : arrV f n = arrV g n := by
  unfold arrV
  congr 1
  exact List.map_congr_left (fun i hi => h i (List.mem_range.1 hi))
theorem made_arr (z : Value) (hz : z.cells = #[z]) (n : Nat) : madeCells z.cells (n * 1) = arrV (fun _ => z) n := by
  unfold madeCells arrV
  have e : ∀ x : Nat, z.cells[x % z.cells.size]! = z := by
    intro x
    rw [hz]
    simp [Nat.mod_one]
  simp only [e]
  apply Array.ext <;> simp
theorem Blk.arr {w : World} {q : Nat} {f : Nat → Value} {n : Nat} {t : TypeId} (h : Blk w q (arrV f n) t) {i : Nat} (hi : i < n) : w.cell? ⟨q, i, none⟩ = some (f i) := h.cell i (arrV_get hi)
theorem Blk.arrRow {w : World} {q : Nat} {k : IntKind} {f : Nat → Int} {n : Nat} {t : TypeId} (h : Blk w q (arrV (fun i => .int k (f i)) n) t) : Row w k (some ⟨q, 0, none⟩) ((List.range n).map f) := by
  intro i hi
  have hi' : i < n := by simpa using hi
  refine ⟨q, 0, rfl, h.lt, ?_⟩
  rw [Nat.zero_add, h.arr hi']
  unfold nth
  simp [List.getD, hi']

end Go.Proofs.Ytgfpcamgebnfmaa.Pk
