/-
  What must come whatever the arguments are (the theorems of the whole, layer 7).
-/
import Derived.Test.YtkcfgjedhgagdaaBegun7
import Derived.Test.YtkcfgjedhgagdaaTagPk
import Derived.Test.YtkcfgjedhgagdaaOnes
namespace Go.Proofs.Ytkcfgjedhgagdaa.Pk
open Go.RowKit
set_option linter.unusedVariables false
set_option linter.unusedSimpArgs false

theorem pack_34 (w : World) : Calls Try.prog 25 #[.agg #[.int .i64 2, .int .i64 0, .int .i64 0, .int .i64 0, .int .i64 1, .int .i64 0, .int .i64 0]] w fun e w' => e = .returned (.tuple #[.int .u32 34, .int .i64 0]) ∧ Below w.heap.size w w' :=
  tpack_yes 2 0 0 0 1 0 0 w (by decide)
theorem get_34 (w : World) : Calls Try.prog 29 #[.int .u32 34, .int .i64 0, .int .i64 2] w fun e w' => e = .returned (.int .u32 2) ∧ Drw w w' := by
  have h := get_any 34 0 2 w (by decide) (by decide)
  rw [get_uK] at h
  exact h
theorem ones_34 (w : World) : Calls Try.prog 50 #[.int .u32 34] w fun e w' => e = .returned (.int .i64 2) ∧ Drw w w' :=
  ones_any 34 w (by decide) (by decide)

set_option maxHeartbeats 400000 in
theorem awake7_any (w : World) : Calls Try.prog 23 #[] w fun e w' => e = .returned (.bool true) ∧ Below w.heap.size w w' := by
  go_enter Try.func23, Try.ntmps23
  go_wp2_with fail
  refine (pack_34 _).mono ?_
  rintro e w1 ⟨rfl, hb⟩
  have HB1 := Lib.hid hb
  clear hb
  go_wp2_with fail
  refine (get_34 _).mono ?_
  rintro e w2 ⟨rfl, hd⟩
  have HB2 := Lib.hid (below_step HB1.out hd.new)
  clear hd
  go_wp2_with fail
  refine (ones_34 _).mono ?_
  rintro e w3 ⟨rfl, hd⟩
  have HB3 := Lib.hid (below_step HB2.out hd.new)
  clear hd
  go_wp2_with fail
  refine (full_lit 16 9 0 9 _ (by decide)).mono ?_
  rintro e w4 ⟨rfl, hb⟩
  have HB4 := Lib.hid (below_step HB3.out hb)
  clear hb
  go_wp2_with fail
  go_ret
  exact ⟨rfl, HB4.out⟩

end Go.Proofs.Ytkcfgjedhgagdaa.Pk
