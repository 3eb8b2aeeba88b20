/-
  The document's rows of layer 8: what Has, Front, Rest, Behind, Ends, Next and Ints return.
-/
import Derived.Test.YtlgkgijgnmancaaDoorProg
import Derived.Test.YtlgkgijgnmancaaDoorBaseEtc
import Derived.IntWalk
import Derived.OwnWalk
import Derived.Laws.OwnMore
namespace Go.Proofs.YtlgkgijgnmancaaDoor.Pk
open Go.RowKit
set_option linter.unusedVariables false
set_option linter.unusedSimpArgs false

/-- Numbers gathered in memory of a call's own. -/
def Gath (w : World) (v : Value) (k : Nat) (zs : List Int) (wr : World) : Prop := wr.ownsRow w.heap.size 3 1 v k (zs.map (Value.int .i64)) ∧ Below w.heap.size w wr
/-- The end of such a call. -/
def NewRow (w : World) (zs : List Int) (e : Ending) (w' : World) : Prop :=
  ∃ a cap, e = .returned (.slice a zs.length cap) ∧ Row w' .i64 a zs ∧ (∀ b off, a = some ⟨b, off, none⟩ → w.heap.size ≤ b) ∧ Below w.heap.size w w'
theorem NewRow.mk {w w' : World} {v : Value} {zs : List Int} {n : Nat} (hn : n = zs.length) (h : Gath w v n zs w') : NewRow w zs (.returned v) w' := by
  subst hn
  obtain ⟨a, cap, hv, hr⟩ := Row.of_owns h.1
  refine ⟨a, cap, by rw [hv], hr, ?_, h.2⟩
  intro b off hab
  have := owns_block h.1 b (by rw [hv, hab]; rfl)
  exact this

set_option maxHeartbeats 400000 in
theorem rcInts_same (a b : Option Addr) (ca cb : Nat) (zs : List Int) (w : World) (h1 : Row w .i64 a zs) (h2 : Row w .i64 b zs) (hl : zs.length ≤ 10000) :
    Calls Tryd.prog 17 #[.slice a zs.length ca, .slice b zs.length cb] w fun e w' => e = .returned (.bool true) ∧ Drw w w' := by
  go_enter Tryd.func17, Tryd.ntmps17
  go_wp2
  go_loopw [5] (fun i wr => ∃ k : Nat, k ≤ zs.length ∧ i = .int .i64 k ∧ Drw w wr) (fun i _ => zs.length - (intOf i).toNat)
  case atStart => exact ⟨0, Nat.zero_le _, rfl, Drw.refl _⟩
  case round =>
    obtain ⟨k, hk, rfl, hd⟩ := hrel
    by_cases hlt : k < zs.length
    · obtain ⟨b1, o1, rfl, hb1, hc1⟩ := (h1.drw hd) k hlt
      obtain ⟨b2, o2, rfl, hb2, hc2⟩ := (h2.drw hd) k hlt
      go_wp2
      go_quiet (fail)
      go_wp2
      go_roundw
      case rel => exact ⟨k + 1, by omega, by go_num, hd.step _⟩
      case measure => simp [intOf]; omega
    · go_wp2
      go_ret
      exact ⟨rfl, hd⟩

end Go.Proofs.YtlgkgijgnmancaaDoor.Pk
