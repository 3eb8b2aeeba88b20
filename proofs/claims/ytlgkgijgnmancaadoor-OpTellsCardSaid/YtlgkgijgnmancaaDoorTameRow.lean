/-
  Regions that draw their order (XTame): a call that makes a row of numbers.
-/
import Derived.Test.YtlgkgijgnmancaaDoorTame
import Derived.Test.YtlgkgijgnmancaaDoorRefChain
namespace Go.Proofs.YtlgkgijgnmancaaDoor.Pk
open Go.RowKit
theorem upon_row_call {P : Program} {w : World} {f : FuncId} {args : Array Value} {zs : List Int} {r : Result Next} (h : r = .ok (.enter f args) w) (hc : Calls P f args w (NewRow w zs)) : tameUpon P w (Fact.row .i64 zs).p r := by
  subst h
  exact hc.mono (fun e w' ⟨a, cap, he, hr, hf, hb⟩ => ⟨_, he, hb, a, cap, rfl, hr⟩)
end Go.Proofs.YtlgkgijgnmancaaDoor.Pk
