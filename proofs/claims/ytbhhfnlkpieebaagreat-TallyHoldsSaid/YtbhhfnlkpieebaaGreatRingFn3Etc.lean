/-
  What the functions of package ring return: List; the bundles.
-/
import Derived.Test.YtbhhfnlkpieebaaGreatRingFn2Etc
import Derived.Test.YtbhhfnlkpieebaaGreatPoolDoEtc
import Derived.Test.YtbhhfnlkpieebaaGreatGroFnEtc
import Derived.OwnWalk
import Derived.Laws.OwnMore
namespace Go.Proofs.YtbhhfnlkpieebaaGreat.Pk
open Go.RowKit
set_option linter.unusedVariables false
set_option linter.unusedSimpArgs false
theorem jW.slice{w wr:World}{v:Value}{k:Nat}{zs:List Int}(h:jW w v k zs wr):∃a cap,v=.slice a k cap:=by
 rcases h.1.2 with⟨rfl,rfl⟩|⟨g,cap,cur,rfl,_⟩
 ·exact⟨none,0,rfl⟩
 ·exact⟨_,cap,rfl⟩
end Go.Proofs.YtbhhfnlkpieebaaGreat.Pk
