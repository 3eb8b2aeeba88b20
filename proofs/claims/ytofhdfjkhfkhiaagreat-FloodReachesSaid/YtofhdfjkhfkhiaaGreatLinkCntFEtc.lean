/-
  Layer 15's law of counts: an object's count is how many holds of it there are, and how often fields hold it.
-/
import Derived.Test.YtofhdfjkhfkhiaaGreatGravGrownEtc
import Derived.Test.YtofhdfjkhfkhiaaGreatGravGrownEtc
import Derived.Test.YtofhdfjkhfkhiaaGreatWholeRowFEtc
namespace Go.Proofs.YtofhdfjkhfkhiaaGreat.Pk
open Go.RowKit
set_option linter.unusedVariables false
set_option linter.unusedSimpArgs false
set_option maxRecDepth 100000
theorem lact_of{w:World}{a:Option Addr}{rs:List (List Fld)}(hr:Recs w a [.int .u8,.int .i64,.int .i64,.int .i64,.int .i64,.int .i64] rs){k:Nat}(hk:k<rs.length):
  ∃(b off:Nat) (kd r i x y z:Int),a=some ⟨b,off,none⟩∧b<w.heap.size∧w.cell? ⟨b,off+k*6,none⟩=some (.int .u8 kd)∧w.cell? ⟨b,off+k*6+1,none⟩=some (.int .i64 r)∧w.cell? ⟨b,off+k*6+2,none⟩=some (.int .i64 i)∧w.cell? ⟨b,off+k*6+3,none⟩=some (.int .i64 x)∧w.cell? ⟨b,off+k*6+4,none⟩=some (.int .i64 y)∧w.cell? ⟨b,off+k*6+5,none⟩=some (.int .i64 z)∧0≤kd∧In64 r∧In64 x:=by
 obtain⟨h1,b,off,ha,hb,hc⟩:=hr k rs[k] (by simp[hk])
 generalize rs[k]=r at h1 hc
 have hl:r.length=6:=by have:=congrArg List.length h1;simpa using this
 match r,hl with
 |[f0,f1,f2,f3,f4,f5],_=>
  simp at h1
  obtain⟨k0,k1,k2,k3,k4,k5⟩:=h1
  have c0:=hc 0 f0 rfl
  have c1:=hc 1 f1 rfl
  have c2:=hc 2 f2 rfl
  have c3:=hc 3 f3 rfl
  have c4:=hc 4 f4 rfl
  have c5:=hc 5 f5 rfl
  cases f0<;>simp[Fld.kd] at k0
  cases f1<;>simp[Fld.kd] at k1
  cases f2<;>simp[Fld.kd] at k2
  cases f3<;>simp[Fld.kd] at k3
  cases f4<;>simp[Fld.kd] at k4
  cases f5<;>simp[Fld.kd] at k5
  subst k0 k1 k2 k3 k4 k5
  refine⟨b,off,_,_,_,_,_,_,ha,hb,by simpa[Fld.val] using c0.1,by simpa[Fld.val] using c1.1,by simpa[Fld.val] using c2.1,by simpa[Fld.val] using c3.1,by simpa[Fld.val] using c4.1,by simpa[Fld.val] using c5.1,?_,?_,?_⟩
  ·have:=c0.2
   simp[Fld.ok,Lit.wf,IntKind.min,IntKind.max,IntKind.bits,IntKind.signed] at this
   omega
  ·have:=c1.2
   simp[Fld.ok,Lit.wf,IntKind.min,IntKind.max,IntKind.bits,IntKind.signed] at this
   unfold In64
   omega
  ·have:=c3.2
   simp[Fld.ok,Lit.wf,IntKind.min,IntKind.max,IntKind.bits,IntKind.signed] at this
   unfold In64
   omega
end Go.Proofs.YtofhdfjkhfkhiaaGreat.Pk
