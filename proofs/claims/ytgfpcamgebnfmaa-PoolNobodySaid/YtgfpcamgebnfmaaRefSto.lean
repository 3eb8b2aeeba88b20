/-
  The document's store.
-/
import Derived.Test.YtgfpcamgebnfmaaProg
import Derived.Test.YtgfpcamgebnfmaaSto
import Derived.IntWalk
import Derived.Outline
import Derived.Laws.MakeOwn
import Derived.OwnWalk
namespace Go.Proofs.Ytgfpcamgebnfmaa.Pk
open Go.RowKit
set_option linter.unusedVariables false
set_option linter.unusedSimpArgs false

theorem st_infoU32 : (Try.prog.info? 36).map (fun i => (i.zero, i.size, i.bytes)) = some (some (.int .u32 0), 1, 4) := by kernel_rfl
theorem made_words (n : Nat) : madeCells (Value.int .u32 0).cells (n * 1) = words (List.replicate n 0) := by
  unfold words madeCells
  have e : ∀ x : Nat, (Value.int .u32 0).cells[x % (Value.int .u32 0).cells.size]! = Value.int .u32 0 := by
    intro x
    rw [show (Value.int .u32 0).cells = #[Value.int .u32 0] from rfl]
    simp [Nat.mod_one]
  simp only [e]
  apply Array.ext <;> simp
theorem make_words (n : Nat) (hn : n ≤ 10000000) (w : World) : (Instr.makeSlice 80 (.int .i64 (n : Int)) (.int .i64 (n : Int))).run Try.prog w = .ok (.slice (some ⟨w.heap.size, 0, none⟩) n n) (w.alloc (.cells (words (List.replicate n 0)) 36)) := by
  obtain ⟨i0, hi, hz0, hz1, hz2⟩ := info_parts st_infoU32
  have := run_make w 80 36 i0 (.int .u32 0) Try.underlying80 hi hz0 .i64 .i64 (n : Int) (n : Int) (by omega) (Int.le_refl _) (by rw [hz2]; omega) (by omega)
  rw [this, hz1, ← made_words]
  simp

/-- A new store of so many words. -/
def NewSto (w : World) (t e : TypeId) (n : Nat) (en : Ending) (w' : World) : Prop :=
  ∃ s g, en = .returned (.pointer (some ⟨s, 0, none⟩)) ∧ Sto w' t e s g (List.replicate n 0) 0 ∧ w.heap.size ≤ s ∧ w.heap.size ≤ g ∧ Below w.heap.size w w'

end Go.Proofs.Ytgfpcamgebnfmaa.Pk
