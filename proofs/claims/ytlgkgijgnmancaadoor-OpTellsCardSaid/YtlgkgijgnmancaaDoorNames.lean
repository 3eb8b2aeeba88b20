/-
  Package op's table of names, as its initialiser lays it: what the laid condition tells a walk; it stays while memory is made. No program in sight.
-/
import Derived.Test.YtlgkgijgnmancaaDoorRows
import Derived.Test.YtlgkgijgnmancaaDoorBaseEtc
import Derived.ProofKit
import Derived.LaidMore
import Derived.OpenShut
import Derived.Stop.Joined
namespace Go.Proofs.YtlgkgijgnmancaaDoor.Pk
open Go.ChangeShapes Go.WideShapes Go.ChangeAt Go.RowKit
set_option linter.unusedVariables false
set_option linter.unusedSimpArgs false

/-- The names of the kinds of operations, as bytes. -/
def opL : List (List UInt8) := [[97, 108, 108, 111, 99], [108, 111, 97, 100], [115, 116, 111, 114, 101], [114, 101, 97, 100], [119, 114, 105, 116, 101], [99, 111, 112, 121], [100, 114, 111, 112], [115, 97, 109, 101], [108, 101, 110], [116, 105, 99, 107]]
def opS (i : Nat) : ByteArray := ⟨(opL.getD i []).toArray⟩
/-- The table lies there. -/
structure NamesAt (w : World) : Prop where
  lt : 0 < w.heap.size
  at_ : ∀ i, i < 10 → w.cell? ⟨0, i, none⟩ = some (.string (opS i))
theorem NamesAt.later {w w' : World} (h : NamesAt w) (hb : Below w.heap.size w w') : NamesAt w' :=
  ⟨Nat.lt_of_lt_of_le h.lt hb.size, fun i hi => (hb.cell (p := ⟨_, i, none⟩) h.lt).trans (h.at_ i hi)⟩
theorem NamesAt.drewN {w : World} (h : NamesAt w) (n : Nat) : NamesAt (w.drewN n) := ⟨h.lt, h.at_⟩
theorem NamesAt.touch {X : Nat → Prop} {w w' : World} (h : NamesAt w) (T : Touch X w w') (hx : ¬ X 0) : NamesAt w' :=
  ⟨Nat.lt_of_lt_of_le h.lt T.size, fun i hi => (T.cell (p := ⟨_, i, none⟩) h.lt hx).trans (h.at_ i hi)⟩
theorem NamesAt.alloc {w : World} (h : NamesAt w) (o : Obj) : NamesAt (w.alloc o) := h.touch ((Touch.refl (fun _ => False) w).alloc o) id

theorem gNames : Tryd.prog.globalNamed "quitrent/op.names" = some 0 := by kernel_rfl
theorem tNames : (Tryd.prog.globals[0]?).map (·.type) = some 70 := by kernel_rfl
/-- What the condition on memory says of the table. -/
theorem names_of_laid {W : World} (h : laidMetH Tryd.prog [("quitrent/op.names", Rows.laid_quitrent_op_names)] W) : NamesAt W := by
  rw [MakeChecks.laidMetH_plain _ _ _ (by kernel_rfl)] at h
  obtain ⟨ps, ⟨g0, t0, cs0, f0, p0, q0, hg0, ht0, hv0, hd0, _, _⟩, _, _⟩ := h
  obtain rfl := Option.some.inj (gNames.symm.trans hg0)
  obtain rfl := Option.some.inj (tNames.symm.trans ht0)
  obtain ⟨xs, m, rfl, hx, hlen, hn, hel⟩ := DataW.trod_array Tryd.underlying70 hd0
  have c1 : Tryd.prog.cellsOf 9 = 1 := by kernel_rfl
  simp only [Prod.mk.injEq, Rows.laid_quitrent_op_names, DataW.agg.injEq] at hx
  have hk : ∀ i, i < 10 → W.cell? ⟨0, i, none⟩ = some (.string (opS i)) := fun i hi => by
    have h0 := hel i hi
    rw [c1, Nat.mul_one] at h0
    have hxi : xs[i]? = some xs[i] := List.getElem?_eq_getElem (by omega)
    obtain ⟨s, e1, e2, _⟩ := DataW.trod_string Tryd.underlying9 (h0.trans hxi)
    have e3 : (xs.map (·.1))[i]? = some (.lit (.string s.data.toList)) := by rw [List.getElem?_map, hxi, e2]; rfl
    rw [← hx.1] at e3
    have e4 : s.data.toList = opL.getD i [] := by
      have : i = 0 ∨ i = 1 ∨ i = 2 ∨ i = 3 ∨ i = 4 ∨ i = 5 ∨ i = 6 ∨ i = 7 ∨ i = 8 ∨ i = 9 := by omega
      rcases this with rfl | rfl | rfl | rfl | rfl | rfl | rfl | rfl | rfl | rfl <;> (simp at e3; exact e3.symm)
    have e5 : s = opS i := by
      cases s with
      | mk d =>
        unfold opS
        rw [← e4]
    have e6 := World.var?_cell hg0 hv0 i
    rw [e6, ← e5]
    have e7 : cs0.toList[i]? = some (.string s) := by
      have := congrArg (fun l => l[0]?) e1
      simpa [List.getElem?_take, List.getElem?_drop] using this
    simpa using e7
  refine ⟨?_, hk⟩
  have := hk 0 (by decide)
  by_cases hlt : 0 < W.heap.size
  · exact hlt
  · rw [World.cell?, Array.getElem?_eq_none (by omega)] at this
    cases this
/-- The door's own heap meets the condition. -/
theorem names_door (os : Os) (args : Array Value) : laidMetH Tryd.prog [("quitrent/op.names", Rows.laid_quitrent_op_names)] ((World.doorLaid Tryd.prog 400 os).forCall (fun _ _ => 0) ⟨#[], args, []⟩).memory :=
  laidMetH_of_parts3 (fuel := 8) (laidMet_of_run' 8 (by kernel_rfl) (by kernel_rfl)) (by kernel_rfl) (by kernel_rfl)
end Go.Proofs.YtlgkgijgnmancaaDoor.Pk
