/-
  Layer 2: the chapter's examples hold.
-/
import Derived.Test.YtgoenaohpfjljaaRatio
namespace Go.Proofs.Ytgoenaohpfjljaa.Pk
open Go.RowKit
set_option linter.unusedVariables false
set_option linter.unusedSimpArgs false

theorem eqI {P : Program} {f : FuncId} {args : Array Value} {w : World} {a b : Int} (h : Calls P f args w fun e w' => e = .returned (.int .i64 a) ∧ w = w') (hab : a = b) :
    Calls P f args w fun e w' => e = .returned (.int .i64 b) ∧ w = w' := hab ▸ h
theorem up_ex (w : World) : Calls Try.prog 16 #[.int .i64 7, .int .i64 2] w fun e w' => e = .returned (.int .i64 4) ∧ w = w' := eqI (up_any _ _ _) (by decide)
theorem down_ex (w : World) : Calls Try.prog 14 #[.int .i64 7, .int .i64 2] w fun e w' => e = .returned (.int .i64 3) ∧ w = w' := eqI (down_any _ _ _) (by decide)
theorem least_ex1 (w : World) : Calls Try.prog 18 #[.int .i64 100, .int .i64 7] w fun e w' => e = .returned (.int .i64 15) ∧ w = w' := eqI (least_any _ _ _) (by decide)
theorem least_ex2 (w : World) : Calls Try.prog 18 #[.int .i64 1, .int .i64 0] w fun e w' => e = .returned (.int .i64 0) ∧ w = w' := eqI (least_any _ _ _) (by decide)
theorem clamp_ex (w : World) : Calls Try.prog 9 #[.int .i64 9, .int .i64 1, .int .i64 5] w fun e w' => e = .returned (.int .i64 5) ∧ w = w' := eqI (clamp_any _ _ _ _) (by decide)
theorem add_ex (w : World) : Calls Try.prog 10 #[.slice none 0 0] w fun e w' => e = .returned (.int .i64 0) ∧ w = w' := eqI (add_any none 0 [] w (Row.nil _ _ _) (by decide)) (by decide)
theorem mul_ex (a : Option Addr) (w : World) (h : Row w .i64 a [1073741824, 1073741824]) : Calls Try.prog 12 #[.slice a 2 2] w fun e w' => e = .returned (.int .i64 1125899906842624) ∧ w = w' :=
  eqI (mul_any a 2 [1073741824, 1073741824] w h (by decide)) (by decide)
theorem row_mul (w : World) : Row (w.alloc (.cells #[.int .i64 1073741824, .int .i64 1073741824] 3)) .i64 (some ⟨w.heap.size, 0, none⟩) [1073741824, 1073741824] := Row.lit w .i64 [1073741824, 1073741824] 3

set_option maxHeartbeats 400000 in
theorem begun2_any (w : World) : Calls Try.prog 8 #[] w fun e w' => e = .returned (.bool true) ∧ Below w.heap.size w w' := by
  go_enter Try.func8, Try.ntmps8
  go_wp2_with fail
  refine (up_ex _).mono ?_
  rintro e w1 ⟨rfl, rfl⟩
  go_wp2_with fail
  refine (down_ex _).mono ?_
  rintro e w1 ⟨rfl, rfl⟩
  go_wp2_with fail
  refine (mul_ex _ _ (row_mul _)).mono ?_
  rintro e w1 ⟨rfl, rfl⟩
  go_wp2_with fail
  refine (least_ex1 _).mono ?_
  rintro e w1 ⟨rfl, rfl⟩
  go_wp2_with fail
  refine (least_ex2 _).mono ?_
  rintro e w1 ⟨rfl, rfl⟩
  go_wp2_with fail
  refine (add_ex _).mono ?_
  rintro e w1 ⟨rfl, rfl⟩
  go_wp2_with fail
  refine (clamp_ex _).mono ?_
  rintro e w1 ⟨rfl, rfl⟩
  go_wp2_with fail
  go_ret
  exact ⟨rfl, below_new _ _⟩

end Go.Proofs.Ytgoenaohpfjljaa.Pk
