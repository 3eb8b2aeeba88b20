/-
  What the functions of package ring return: List; the bundles.
-/
import Derived.Test.YtbfdimibehkbjaaGreatRingFn2Etc
import Derived.Test.YtbfdimibehkbjaaGreatRingDoEtc
import Derived.Test.YtbfdimibehkbjaaGreatTagIEtc
import Derived.OwnWalk
import Derived.Laws.OwnMore
namespace Go.Proofs.YtbfdimibehkbjaaGreat.Pk
open Go.RowKit
set_option linter.unusedVariables false
set_option linter.unusedSimpArgs false
theorem kE.slice{w wr:World}{v:Value}{k:Nat}{zs:List Int}(h:kE w v k zs wr):∃a cap,v=.slice a k cap:=by
 rcases h.1.2 with⟨rfl,rfl⟩|⟨g,cap,cur,rfl,_⟩
 ·exact⟨none,0,rfl⟩
 ·exact⟨_,cap,rfl⟩
theorem Gs:LX where
 take_yes:=fun c zs l b hz hR=>⟨11,by omega,fun p m w hG=>CL p c ⟨zs,m⟩ b l w hG hR⟩
 take_no:=fun c zs hz hR=>⟨1,by omega,fun p m w hG=>EO p c ⟨zs,m⟩ w hG hR⟩
end Go.Proofs.YtbfdimibehkbjaaGreat.Pk
