/-
  What the functions of package ring return: List; the bundles.
-/
import Derived.Test.YtofhdfjkhfkhiaaGreatRingFn2Etc
import Derived.Test.YtofhdfjkhfkhiaaGreatRingDoEtc
import Derived.Test.YtofhdfjkhfkhiaaGreatGroFnEtc
import Derived.OwnWalk
import Derived.Laws.OwnMore
namespace Go.Proofs.YtofhdfjkhfkhiaaGreat.Pk
open Go.RowKit
set_option linter.unusedVariables false
set_option linter.unusedSimpArgs false
theorem jB.slice{w wr:World}{v:Value}{k:Nat}{zs:List Int}(h:jB w v k zs wr):∃a cap,v=.slice a k cap:=by
 rcases h.1.2 with⟨rfl,rfl⟩|⟨g,cap,cur,rfl,_⟩
 ·exact⟨none,0,rfl⟩
 ·exact⟨_,cap,rfl⟩
theorem zu:Ew where
 take_yes:=fun c zs l b hz hR=>⟨11,by omega,fun p m w hG=>BL p c ⟨zs,m⟩ b l w hG hR⟩
 take_no:=fun c zs hz hR=>⟨1,by omega,fun p m w hG=>DX p c ⟨zs,m⟩ w hG hR⟩
 len:=fun c zs l hz hR=>⟨1,by omega,fun p m w hG=>NZ p c ⟨zs,m⟩ _ w hG hR.r9⟩
end Go.Proofs.YtofhdfjkhfkhiaaGreat.Pk
