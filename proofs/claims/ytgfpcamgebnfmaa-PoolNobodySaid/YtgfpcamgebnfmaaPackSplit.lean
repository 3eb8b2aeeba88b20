/-
  What Split returns: the program's, and the document's; and the document's Same.
-/
import Derived.Test.YtgfpcamgebnfmaaPackTab
import Derived.Test.YtgfpcamgebnfmaaPackJoin
namespace Go.Proofs.Ytgfpcamgebnfmaa.Pk
open Go.RowKit
set_option linter.unusedVariables false
set_option linter.unusedSimpArgs false

theorem infoU32 : (Try.prog.info? 36).map (fun i => (i.zero, i.size, i.bytes)) = some (some (.int .u32 0), 1, 4) := by kernel_rfl

/-- The pieces so far, and noughts for those still to come. -/
def part (x : Int) (zs : List Int) (k : Nat) : List Value := (splitTo x zs k ++ List.replicate (zs.length - k) 0).map (Value.int .u32)
theorem part_length (x : Int) (zs : List Int) (k : Nat) (hk : k ≤ zs.length) : (part x zs k).length = zs.length := by
  simp [part, splitTo_length]; omega
theorem part_zero (x : Int) (zs : List Int) : part x zs 0 = List.replicate zs.length (.int .u32 0) := by
  simp [part, splitTo]
theorem part_at (x : Int) (zs : List Int) (k : Nat) (hk : k < zs.length) : (part x zs k)[k]? = some (.int .u32 0) := by
  unfold part
  rw [List.getElem?_map, List.getElem?_append_right (by rw [splitTo_length]; omega), splitTo_length, List.getElem?_replicate, if_pos (by omega)]
  rfl
theorem part_set (x : Int) (zs : List Int) (k : Nat) (hk : k < zs.length) :
    (part x zs k).set k (.int .u32 (getI x (sumTo zs k) (nth zs k))) = part x zs (k + 1) := by
  unfold part
  rw [splitTo_succ, show zs.length - k = (zs.length - (k + 1)) + 1 by omega, List.replicate_succ, List.map_append, List.set_append_right _ _ (by rw [List.length_map, splitTo_length]; omega)]
  rw [List.length_map, splitTo_length, Nat.sub_self]
  simp
theorem part_all (x : Int) (zs : List Int) : part x zs zs.length = (splitTo x zs zs.length).map (Value.int .u32) := by
  simp [part]

/-- The end of a Split: the pieces, in memory of its own. -/
def Pieces (x : Int) (zs : List Int) (w : World) (e : Ending) (w' : World) : Prop :=
  ∃ a cap, e = .returned (.tuple #[.slice a zs.length cap, .int .i64 0]) ∧ Row w' .u32 a (splitTo x zs zs.length) ∧ Below w.heap.size w w'
theorem Pieces.mk {x : Int} {zs : List Int} {w w' : World} {v : Value} {B : Nat} {t : TypeId}
    (h : w'.ownsRow B t 1 v zs.length ((splitTo x zs zs.length).map (Value.int .u32))) (hb : Below w.heap.size w w') : Pieces x zs w (.returned (.tuple #[v, .int .i64 0])) w' := by
  have h2 : w'.ownsRow B t 1 v (splitTo x zs zs.length).length ((splitTo x zs zs.length).map (Value.int .u32)) := by rw [splitTo_length]; exact h
  obtain ⟨a, cap, hv, hr⟩ := Row.of_owns h2
  rw [splitTo_length] at hv
  exact ⟨a, cap, by rw [hv], hr, hb⟩

/-! ### The document's -/
/-- The relation of the document's loop: the pieces so far, in memory of its own. -/
def Gathered (x : Int) (zs : List Int) (w : World) (k : Nat) (v : Value) (wr : World) : Prop :=
  wr.ownsRow w.heap.size 36 1 v k ((splitTo x zs k).map (Value.int .u32)) ∧ Below w.heap.size w wr

end Go.Proofs.Ytgfpcamgebnfmaa.Pk
