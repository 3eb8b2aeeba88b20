/-
  What the functions of package ring must return for the laws (a bundle; RingFn proves it of the landed code).
-/
import Derived.Test.YtljdbaddockfcaaGreatRingMath
import Derived.Test.YtljdbaddockfcaaGreatLawKit
namespace Go.Proofs.YtljdbaddockfcaaGreat.Pk
open Go.RowKit
set_option linter.unusedVariables false
set_option linter.unusedSimpArgs false

/-- Nobody can be added: there is no such block, it is no head, or stands there. -/
def NoAdd (c : Cf) (zs : List Int) (l : List Nat) (b : Int) : Prop := ¬ (0 ≤ b ∧ b < (c.N : Int)) ∨ ∃ k : Nat, b = (k : Int) ∧ k < c.N ∧ (¬ HeadT (nth zs (adr c k 0)) ∨ k ∈ l)

/-- What package ring's functions return. -/
structure RingFns : Prop where
  add_yes : ∀ (c : Cf) (zs : List Int) (l : List Nat) (b : Nat), Wz c zs → RingAt c zs l → b < c.N → b ∉ l → HeadT (nth zs (adr c b 0)) → Acts c 103 [.int .i64 (b : Int)] zs 24 (ringAddZ c b zs) (.bool true)
  add_no : ∀ (c : Cf) (zs : List Int) (l : List Nat) (b : Int), Wz c zs → RingAt c zs l → NoAdd c zs l b → Acts c 103 [.int .i64 b] zs 24 zs (.bool false)
  cut_yes : ∀ (c : Cf) (zs : List Int) (l : List Nat) (b : Nat), Wz c zs → RingAt c zs l → b ∈ l → Acts c 113 [.int .i64 (b : Int)] zs 24 (ringCutZ c b zs) (.bool true)
  cut_no : ∀ (c : Cf) (zs : List Int) (l : List Nat) (b : Int), Wz c zs → RingAt c zs l → hasB (ints l) b = false → Acts c 113 [.int .i64 b] zs 24 zs (.bool false)
  list : ∀ (c : Cf) (zs : List Int) (l : List Nat), Wz c zs → RingAt c zs l → Looks c 107 [] zs (NewNats l)

end Go.Proofs.YtljdbaddockfcaaGreat.Pk
