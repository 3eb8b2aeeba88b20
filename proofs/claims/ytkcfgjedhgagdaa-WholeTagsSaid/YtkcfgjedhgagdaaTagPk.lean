/-
  tag.Pack of any tag, apart from the kinds' names.
-/
import Derived.Test.YtkcfgjedhgagdaaTag3
namespace Go.Proofs.Ytkcfgjedhgagdaa.Pk
open Go.RowKit

theorem tpackV_any (k c n s d g o : Int) (w : World) :
    Calls Try.prog 25 #[.agg #[.int .i64 k, .int .i64 c, .int .i64 n, .int .i64 s, .int .i64 d, .int .i64 g, .int .i64 o]] w fun e w' => e = .returned (.tuple #[.int .u32 (packV k c n s d g o), .int .i64 (packE k c n s d g o)]) ∧ Below w.heap.size w w' := by
  cases hr : rightB k c n s d g o with
  | true => rw [packV_yes hr, packE_yes hr]; exact tpack_yes k c n s d g o w hr
  | false => rw [packV_no hr, packE_no hr]; exact tpack_no k c n s d g o w hr

end Go.Proofs.Ytkcfgjedhgagdaa.Pk
