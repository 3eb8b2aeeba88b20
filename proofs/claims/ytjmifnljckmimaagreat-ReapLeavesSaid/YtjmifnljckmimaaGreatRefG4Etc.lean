/-
  Texts laid together: RefG4, RefG5, RefG7.
-/
import Derived.Test.YtjmifnljckmimaaGreatGravNamEtc
import Derived.Test.YtjmifnljckmimaaGreatChainsEtc
import Derived.Test.YtjmifnljckmimaaGreatBaseEtc
import Derived.BigQuiet
import Derived.Deep.RegionHeld3
import Derived.RegionTactic
import Derived.Deep.RegionWith
import Derived.Test.YtjmifnljckmimaaGreatRefMkEtc
namespace Go.Proofs.YtjmifnljckmimaaGreat.Pk
open Go.RowKit
set_option linter.unusedVariables false
set_option linter.unusedSimpArgs false
set_option maxRecDepth 100000
section
variable {w w':World} {lo:Nat} {lab:Nat→Nat} {a:WA} {D:Wd} {i:Nat} {t t' u:Th} {x:TA} {n v b:Nat} {cl:List Nat} {ts:List Th}
structure WB (D:Wd):Prop where
 rl:D.ring.length≤8000
 gl:D.grave.length≤8000
 cl:D.clean.length≤7000
 p0:0≤D.pending
 p1:D.pending≤4294900000
 ll:∀r t,D.find r=some t→t.lv.length≤1000
 rf:∀r t,D.find r=some t→0≤t.mr.refs∧t.mr.refs≤4294967295
 sh:∀r t,D.find r=some t→0≤t.mr.shadow∧t.mr.shadow≤4294967295
theorem WB.mark(B:WB D)(r:Int)(f:Mrk→Mrk)(h1:∀t,D.find r=some t→0≤(f t.mr).refs∧(f t.mr).refs≤4294967295)(h2:∀t,D.find r=some t→0≤(f t.mr).shadow∧(f t.mr).shadow≤4294967295):WB (D.mark r f):=by
 have key:∀q s,(D.mark r f).find q=some s→∃t,D.find q=some t∧(s=t∨(D.find r=some t∧s={t with mr:=f t.mr})):=fun q s hs=>by
  rw[find_mark] at hs
  cases hq:D.find q with
  |none=>rw[hq] at hs;cases hs
  |some t=>
   rw[hq] at hs
   simp only[Option.map_some,Option.some.injEq] at hs
   refine⟨t,rfl,?_⟩
   by_cases e:t.at r=true
   ·rw[if_pos e] at hs
    have hr:q=r:=by
     have:=(find_live hq).2
     unfold Th.at at e
     simp at e
     omega
    exact .inr ⟨by rw[←hr];exact hq,hs.symm⟩
   ·rw[if_neg e] at hs
    exact .inl hs.symm
 refine⟨B.rl,B.gl,B.cl,B.p0,B.p1,fun q s hs=> ?_,fun q s hs=> ?_,fun q s hs=> ?_⟩
 ·obtain⟨t,ht,rfl|⟨_,rfl⟩⟩:=key q s hs
  ·exact B.ll q _ ht
  ·exact B.ll q t ht
 ·obtain⟨t,ht,rfl|⟨k,rfl⟩⟩:=key q s hs
  ·exact B.rf q _ ht
  ·exact h1 t k
 ·obtain⟨t,ht,rfl|⟨k,rfl⟩⟩:=key q s hs
  ·exact B.sh q _ ht
  ·exact h2 t k
theorem WB.keep(B:WB D)(r:Int)(f:Mrk→Mrk)(h1:∀m,(f m).refs=m.refs)(h2:∀m,(f m).shadow=m.shadow):WB (D.mark r f):=
 B.mark r f (fun t ht=>by rw[h1];exact B.rf r t ht) (fun t ht=>by rw[h2];exact B.sh r t ht)
theorem WB.touch(B:WB D)(r:Int)(hr:D.ring.length≤7000):WB (D.touch r):=by
 unfold Wd.touch
 split
 ·have k:=B.keep r (fun m=>{m with color:=D.parity}) (fun _=>rfl) (fun _=>rfl)
  refine⟨?_,k.gl,k.cl,k.p0,k.p1,k.ll,k.rf,k.sh⟩
  show(if hasB (ints D.ring) (r-1) then D.ring else D.ring++[(r-1).toNat]).length≤8000
  split
  ·omega
  ·simp;omega
 ·exact B
end
section
variable {w w':World} {lo:Nat} {lab:Nat→Nat} {a:WA} {D D':Wd} {i:Nat} {t t' u:Th} {x:TA} {n v b:Nat} {cl:List Nat} {ts:List Th}
theorem WB.dP(B:WB D)(r:Int):0≤D.dP r∧D.dP r≤4294967295:=by
 unfold Wd.dP
 cases hf:D.find r with
 |none=>simp
 |some t=>
  have:=B.sh r t hf
  simp only
  split<;>omega
end
theorem Cw(P:Nat→World→Prop):∃μ:World→Nat,∀wr n,P n wr→P (μ wr) wr∧μ wr≤n:=by
 have h:∀wr,∃m,∀n,P n wr→P m wr∧m≤n:=fun wr=>by
  by_cases hx:∃n,P n wr
  ·obtain⟨n,hn⟩:=hx
   induction n using Nat.strongRecOn with
   |ind n ih=>
    by_cases hy:∃k,k<n∧P k wr
    ·obtain⟨k,hk,hp⟩:=hy
     exact ih k hk hp
    ·exact⟨n,fun k hk=>⟨hn,by
      by_cases hlt:k<n
      ·exact absurd ⟨k,hlt,hk⟩ hy
      ·omega⟩⟩
  ·exact⟨0,fun n hn=>absurd ⟨n,hn⟩ hx⟩
 exact⟨fun wr=>Classical.choose (h wr),fun wr=>Classical.choose_spec (h wr)⟩
section
variable {w w':World} {lo q:Nat} {lab:Nat→Nat} {a:WA} {D D':Wd} {i:Nat} {t t' u:Th} {x:TA} {n v b:Nat} {cl:List Nat} {ts:List Th}
end
end Go.Proofs.YtjmifnljckmimaaGreat.Pk
