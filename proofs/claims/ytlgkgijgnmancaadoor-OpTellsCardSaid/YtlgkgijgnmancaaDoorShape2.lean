/-
  What the functions of package shape return.
-/
import Derived.Test.YtlgkgijgnmancaaDoorShape
import Derived.OwnWalk
namespace Go.Proofs.YtlgkgijgnmancaaDoor.Pk
open Go.RowKit
set_option linter.unusedVariables false
set_option linter.unusedSimpArgs false

set_option maxHeartbeats 400000 in
theorem shBlocks_any (W p d : Int) (w : World) :
    Calls Tryd.prog 42 #[.int .i64 W, .int .i64 p, .int .i64 d] w fun e w' => e = .returned (.tuple #[.int .i64 (blocksV W p d), .int .i64 (sizeE W p d)]) ∧ Below w.heap.size w w' := by
  by_cases he : sizeE W p d = 0
  · have E : Hid (blocksV W p d = 1 + leavesI W (p + d)) := Lib.hid (by unfold blocksV; rw [if_pos he])
    obtain ⟨h0, h1, h2, h3, h4⟩ := sizeE_ok he
    have hf := fields_bd h0 h1
    have L := leaves_bd h0 h1 h4
    have HL : Hid (∀ w', Calls Tryd.prog 65 #[.int .i64 W, .int .i64 (p + d)] w' fun e w'' => e = .returned (.int .i64 (leavesI W (p + d))) ∧ w' = w'') := Lib.hid (fun w' => shLeavesOf_any W _ w' h0 h1 (by omega) h4)
    rw [he]
    have HE := Lib.hid he
    clear he
    go_enter Tryd.func42, Tryd.ntmps42
    go_wp2_with fail
    refine (shTogether2_any _ _ _ _ _ (by simp)).mono ?_
    rw [HE.out, if_pos rfl]
    rintro e w1 ⟨rfl, hb⟩
    have HB := Lib.hid hb
    clear hb
    go_wp2_with fail
    refine (HL.out _).mono ?_
    rintro e w1 ⟨rfl, rfl⟩
    go_wp2_with fail
    go_ret2
    exact ⟨by rw [E.out]; rfl, HB.out⟩
  · have E : Hid (blocksV W p d = 0) := Lib.hid (by unfold blocksV; rw [if_neg he])
    have g := bne_of he
    have HE := Lib.hid he
    clear he
    go_enter Tryd.func42, Tryd.ntmps42
    go_wp2_with fail
    refine (shTogether2_any _ _ _ _ _ (by simp)).mono ?_
    rw [if_neg HE.out]
    rintro e w1 ⟨rfl, hb⟩
    have HB := Lib.hid hb
    clear hb
    go_wp2_with fail
    go_ret2
    exact ⟨by rw [E.out]; rfl, HB.out⟩

end Go.Proofs.YtlgkgijgnmancaaDoor.Pk
