/-
  Layer 10: the law's act, case by case.
-/
import Derived.Test.YtljdbaddockfcaaGreatPoolLaw
import Derived.Test.YtljdbaddockfcaaGreatTame
import Derived.Deep.RegionHeld3
import Derived.BigQuiet
namespace Go.Proofs.YtljdbaddockfcaaGreat.Pk
open Go.RowKit
set_option linter.unusedVariables false
set_option linter.unusedSimpArgs false

/-- What lies there when an act begins. -/
structure AtP (w : World) (p : Pl) (c : Cf) (s : St) (l : List Nat) (a : Option Addr) : Prop where
  gr : G w p c s
  pool : PoolAt c s.zs l
  r : Row w .i64 a (ints l)
  o : RowOut (inG p) a (ints l)
  hN : c.N ≤ 5000
theorem AtP.hl {w : World} {p : Pl} {c : Cf} {s : St} {l : List Nat} {a : Option Addr} (h : AtP w p c s l a) : l.length ≤ 5000 := Nat.le_trans (nodup_len h.pool.ch.nd h.pool.ch.lt) h.hN
/-- What an act leaves. -/
def DoP (w : World) (p : Pl) (c : Cf) (e : Ending) (w' : World) : Prop :=
  ∃ l' a' cap' s', e = .returned (.tuple #[.slice a' (List.length l') cap', .bool true]) ∧ AtP w' p c s' l' a' ∧ Touch (inG p) w w'

end Go.Proofs.YtljdbaddockfcaaGreat.Pk
