/-
  Layer 16's law of the count with nothing done between.
-/
import Derived.Test.YtjmifnljckmimaaGreatRefSeeEtc
import Derived.Test.YtjmifnljckmimaaGreatGravGrownEtc
namespace Go.Proofs.YtjmifnljckmimaaGreat.Pk
open Go.RowKit
set_option linter.unusedVariables false
set_option linter.unusedSimpArgs false
set_option maxRecDepth 100000
theorem wS{g:Th→Th}{r:Int}{s:Th}:∀{l:List Th},s∈bE r g l→s∈l∨∃t,aP r l=some t∧s=g t
 |[],h=>by simp[bE] at h
 |u::l,h=>by
  unfold bE at h
  unfold aP
  cases hu:u.at r with
  |true=>
   rw[hu] at h
   simp only[if_true] at h ⊢
   rcases List.mem_cons.1 h with rfl|h
   ·exact .inr ⟨u,rfl,rfl⟩
   ·exact .inl (List.mem_cons_of_mem _ h)
  |false=>
   rw[hu] at h
   simp only[Bool.false_eq_true,if_false] at h ⊢
   rcases List.mem_cons.1 h with rfl|h
   ·exact .inl (List.mem_cons_self ..)
   ·rcases wS h with h|h
    ·exact .inl (List.mem_cons_of_mem _ h)
    ·exact .inr h
def Rv(D:Wd):Prop:=∀t,t∈D.ts→t.ended=false∧(t.mr.dead=true→t.mr.leaves=(t.lv.length:Int))
structure uJ (L:List Int) (D:Wd):Prop where
 san:San D
 nd:(D.ts.map Th.h).Nodup
 refs:D.dD=L
 dy:bA D
 fl:Rv D
section
variable {L:List Int} {D D':Wd} {t:Th} {w wr:World} {p:Pl} {N k:Nat}
theorem nG.Re(G:nG N D k)(h:bA D):uJ D.dD D:=⟨G.san,G.nd,rfl,h,fun t ht=>⟨G.all t ht,fun hd=>by
 have:=G.alive (dV.2 ⟨ht,G.all t ht⟩)
 rw[this] at hd
 cases hd⟩⟩
theorem uJ.inter(F:uJ L D)(x:Int):uJ L (D.inter x):=by
 refine⟨F.san.inter x,by rw[lC];exact F.nd,(kQ (lC x)).trans F.refs,?_,?_⟩
 ·unfold Wd.inter
  split
  ·unfold Wd.bury
   split
   ·exact F.dy
   ·split
    ·exact F.dy
    ·rename_i t _ _
     exact⟨F.dy.1,by rw[gK];exact iO (P:=fun t=>t.mr.count=0∧t.mr.shade=0) (g:=fun s=>{s with mr:={s.mr with dead:=true,left:=(t.pt.length:Int),leaves:=(t.lv.length:Int)}}) (fun t ht=>ht) x F.dy.2⟩
  ·exact F.dy
 ·unfold Wd.inter
  split
  ·unfold Wd.bury
   split
   ·exact F.fl
   ·split
    ·exact F.fl
    ·rename_i t hf _
     intro s hs
     rw[gK] at hs
     rcases wS hs with hs|⟨u,hu,rfl⟩
     ·exact F.fl s hs
     ·have e:u=t:=Option.some.inj (hu.symm.trans hf)
      subst e
      exact⟨(F.fl u (ji hu)).1,fun _=>rfl⟩
  ·exact F.fl
theorem uJ.len(F:uJ L D)(hw:D.w=16):aj (fun t=>t.pt.length) D.ts≤15*aj occT D.ts:=mR 15 (fun t ht=>by
 have hm:=(dV.1 ht).1
 have hg:=(F.san.ok t ht).tC
 have ho:occT t=1+t.lv.length:=by
  unfold occT
  split
  ·rename_i hd
   rw[(F.fl t hm).2 hd]
   simp
  ·rfl
 rw[hw] at hg
 rw[ho]
 by_cases h:t.pt.length+t.dt.length≤16-8
 ·omega
 ·have:=(hg.big h).2
  omega)
theorem uJ.find(F:uJ L D){j:Nat}(hj:j<L.length):∃t,D.find (nth L j)=some t:=by
 have hr:=F.refs
 subst hr
 have hj2:j<D.ts.length:=by unfold Wd.dD at hj;simpa using hj
 have e:nth D.dD j=(D.ts[j].h:Int)+1:=by
  unfold nth Wd.dD
  rw[List.getD_eq_getElem?_getD]
  simp[hj2]
 have h:=zk (l:=D.ts) F.nd (List.getElem_mem hj2)
 rw[(F.fl _ (List.getElem_mem hj2)).1] at h
 rw[e]
 exact⟨_,h⟩
theorem uJ.ci(F:uJ L D)(h:RSt w p (gY N) D wr):CI N 0 0 0 (D.turn.begin 1):=by
 have hl:=F.len h.w16
 have ht:=h.total F.san
 have hc:(gY N).N=N:=rfl
 rw[hc] at ht
 have hn:D.n=N:=by
  obtain⟨zs,m,_,hR,_⟩:=h
  exact hR.n
 have hlt:∀t,t∈D.live→t.h<N:=fun t ht=>by
  obtain⟨zs,m,_,hR,_⟩:=h
  exact hR.hlt ht
 have hp:(D.turn.begin 1).parity=1:=by
  show 1-D.parity=1
  rw[F.dy.1]
  rfl
 have hz:∀u,sU 0 0 u=0:=fun u=>by
  unfold sU
  rw[if_neg (by omega)]
  split<;>rfl
 refine⟨F.san.dI rfl rfl rfl rfl (fun b hb=>.inl hb),rfl,rfl,rfl,hn,Nat.zero_le _,fun t ht=> ?_,.inl rfl,fun q t hq=> ?_,?_,hlt,?_⟩
 ·rw[hp,(F.dy.2 t (dV.1 ht).1).1]
  exact⟨fun h=>absurd h (by decide),fun h=>absurd h (Nat.not_lt_zero _)⟩
 ·rw[F.dy.dB hp rfl q,lN (φ:=AJ q 0 0) (fun u _=>by unfold AJ;rw[hz u];rfl)]
  rfl
 ·rw[lN (φ:=sU 0 0) (fun u _=>hz u)]
 ·show N+aj (fun t=>t.pt.length) D.ts≤_
  omega
end
end Go.Proofs.YtjmifnljckmimaaGreat.Pk
