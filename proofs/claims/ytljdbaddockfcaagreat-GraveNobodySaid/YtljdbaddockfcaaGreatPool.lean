/-
  What the functions of package pool must return for the laws (a bundle; PoolFn proves it of the landed code).
-/
import Derived.Test.YtljdbaddockfcaaGreatPoolMath
import Derived.Test.YtljdbaddockfcaaGreatLawKit
namespace Go.Proofs.YtljdbaddockfcaaGreat.Pk
open Go.RowKit
set_option linter.unusedVariables false
set_option linter.unusedSimpArgs false

/-- Nobody can be given: there is no such block, or it is free. -/
def NoGive (c : Cf) (zs : List Int) (b : Int) : Prop := ¬ (0 ≤ b ∧ b < (c.N : Int)) ∨ ∃ k : Nat, b = (k : Int) ∧ k < c.N ∧ uK (nth zs (adr c k 0)) = 0

/-- What package pool's functions return. -/
structure PoolFns : Prop where
  open_yes : ∀ (c : Cf), c.May → ∃ zs', Acts c 71 [] (List.replicate c.size 0) (200 * c.N + 200) zs' (.bool true) ∧ Opened c zs'
  open_no : ∀ (c : Cf) (zs : List Int) (b : Nat) (l : List Nat), Wz c zs → ChainAt c zs 0 (b :: l) → Acts c 71 [] zs 24 zs (.bool false)
  take_yes : ∀ (c : Cf) (zs : List Int) (b : Nat) (l : List Nat), Wz c zs → ChainAt c zs 0 (b :: l) → Acts c 162 [] zs (c.W + 24) (poolTakeZ c b zs) (.tuple #[.int .i64 (b : Int), .bool true])
  take_no : ∀ (c : Cf) (zs : List Int), Wz c zs → ChainAt c zs 0 [] → Acts c 162 [] zs 24 zs (.tuple #[.int .i64 0, .bool false])
  give_yes : ∀ (c : Cf) (zs : List Int) (b : Nat) (l : List Nat), Wz c zs → ChainAt c zs 0 l → b < c.N → b ∉ l → uK (nth zs (adr c b 0)) ≠ 0 → Acts c 166 [.int .i64 (b : Int)] zs 24 (poolGiveZ c b zs) (.bool true)
  give_no : ∀ (c : Cf) (zs : List Int) (b : Int), Wz c zs → NoGive c zs b → Acts c 166 [.int .i64 b] zs 24 zs (.bool false)
  len : ∀ (c : Cf) (zs : List Int) (l : List Nat), Wz c zs → ChainAt c zs 0 l → Acts c 20 [] zs 24 zs (.int .i64 (l.length : Int))
  list : ∀ (c : Cf) (zs : List Int) (l : List Nat), Wz c zs → ChainAt c zs 0 l → Looks c 87 [] zs (NewNats l)

end Go.Proofs.YtljdbaddockfcaaGreat.Pk
