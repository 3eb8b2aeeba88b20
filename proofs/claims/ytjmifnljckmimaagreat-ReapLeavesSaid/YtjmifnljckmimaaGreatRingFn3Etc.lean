/-
  What the functions of package ring return: List; the bundles.
-/
import Derived.Test.YtjmifnljckmimaaGreatRingFn2Etc
import Derived.Test.YtjmifnljckmimaaGreatChainsEtc
import Derived.Test.YtjmifnljckmimaaGreatBaseEtc
import Derived.Test.YtjmifnljckmimaaGreatBaseEtc
import Derived.BigQuiet
import Derived.Deep.RegionHeld3
import Derived.Test.YtjmifnljckmimaaGreatGroFnEtc
import Derived.OwnWalk
import Derived.Laws.OwnMore
namespace Go.Proofs.YtjmifnljckmimaaGreat.Pk
open Go.RowKit
set_option linter.unusedVariables false
set_option linter.unusedSimpArgs false
theorem xk.slice{w wr:World}{v:Value}{k:Nat}{zs:List Int}(h:xk w v k zs wr):∃a cap,v=.slice a k cap:=by
 rcases h.1.2 with⟨rfl,rfl⟩|⟨g,cap,cur,rfl,_⟩
 ·exact⟨none,0,rfl⟩
 ·exact⟨_,cap,rfl⟩
theorem GY:ME where
 take_yes:=fun c zs l b hz hR=>⟨11,by omega,fun p m w hG=>Dr p c ⟨zs,m⟩ b l w hG hR⟩
 take_no:=fun c zs hz hR=>⟨1,by omega,fun p m w hG=>Fz p c ⟨zs,m⟩ w hG hR⟩
end Go.Proofs.YtjmifnljckmimaaGreat.Pk
