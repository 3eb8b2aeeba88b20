/-
  Texts laid together: GravGrown, LinkNam, LinkActF, GravEndF, LinkCntF.
-/
import Derived.Test.YtbhhfnlkpieebaaGreatGravCntEtc
import Derived.Test.YtbhhfnlkpieebaaGreatObjWholeFEtc
import Derived.Test.YtbhhfnlkpieebaaGreatRecsEtc
import Derived.Test.YtbhhfnlkpieebaaGreatLinkDoEtc
import Derived.Test.YtbhhfnlkpieebaaGreatWholeRowFEtc
namespace Go.Proofs.YtbhhfnlkpieebaaGreat.Pk
open Go.RowKit
set_option linter.unusedVariables false
set_option linter.unusedSimpArgs false
set_option maxRecDepth 100000
section
variable {c:Cf} {D:Wd} {x y:Int} {w wr:World} {p:Pl} {N k:Nat}
theorem RSt.sizes(h:RSt w p c D wr):∀t,t∈D.live→t.pt.length≤100000:=fun t ht=>by
 obtain⟨zs,m,hG,hR,_⟩:=h
 have:=(hR.sizes hG.wz ht).1
 omega
theorem Gro.in64(G:Gro N D k)(hN:N≤10000){j:Nat}(hj:j<D.allR.length):In64 (nth D.allR j):=by
 obtain⟨t,ht,e,_⟩:=G.at hj
 have:=G.lt t (mem_live.1 ht).1
 rw[e]
 unfold In64
 omega
end
def OU(X:Nat→Wd→Prop)(w:World)(lo:Nat)(p:Pl)(N k j m:Nat)(v:Value)(wr:World):Prop:=
 ∃D,RSt w p (cfR N) D wr∧Gro N D k∧D.allR.length≤j∧wr.ownsRow lo 3 1 v D.allR.length (D.allR.map (Value.int .i64))∧lo≤wr.heap.size∧X m D
theorem OU.later{X:Nat→Wd→Prop}{w wr w':World}{lo:Nat}{p:Pl}{N k j m:Nat}{v:Value}(h:OU X w lo p N k j m v wr)(hb:Below wr.heap.size wr w'):OU X w lo p N k j m v w':=by
 obtain⟨D,h1,h2,h3,h4,h5,h6⟩:=h
 exact⟨D,h1.later hb,h2,h3,yu h4 (Touch.of_below (X:=fun _=>False) hb) (fun _ _ h=>h),Nat.le_trans h5 hb.size,h6⟩
def sumR(φ:Th→Nat)(D:Wd):Nat→Nat
 |0=>0
 |k+1=>sumR φ D k+atD φ D ((k:Int)+1)
def LZ(φ:Th→Nat)(l:List Th)(r:Int):Nat:=match findL r l with|none=>0|some t=>φ t
def ou(φ:Th→Nat)(l:List Th):Nat→Nat
 |0=>0
 |k+1=>ou φ l k+LZ φ l ((k:Int)+1)
theorem pR{h:Nat}:∀{l:List Th},(∀u,u∈aL l→u.h≠h)→findL ((h:Int)+1) l=none
 |[],_=>rfl
 |u::l,hn=>by
  unfold findL
  rw[aA] at hn
  cases hu:u.ended with
  |true=>
   have:u.at ((h:Int)+1)=false:=by unfold Th.at;simp[hu]
   rw[this]
   rw[hu] at hn
   exact pR (by simpa using hn)
  |false=>
   rw[hu] at hn
   have hne:=hn u (by simp)
   have:u.at ((h:Int)+1)=false:=by
    unfold Th.at
    simp
    intro _ e
    omega
   rw[this]
   exact pR (fun v hv=>hn v (by simp[hv]))
theorem vX{φ:Th→Nat}{u:Th}{l:List Th}(hn:((aL (u::l)).map Th.h).Nodup):∀k,ou φ (u::l) k=ou φ l k+(if u.ended=false∧u.h<k then φ u else 0)
 |0=>by simp[ou]
 |k+1=>by
  have ih:=vX (φ:=φ) hn k
  show ou φ (u::l) k+LZ φ (u::l) ((k:Int)+1)=ou φ l k+LZ φ l ((k:Int)+1)+_
  rw[ih]
  have e1:LZ φ (u::l) ((k:Int)+1)=LZ φ l ((k:Int)+1)+(if u.ended=false∧u.h=k then φ u else 0):=by
   unfold LZ
   rw[show findL ((k:Int)+1) (u::l)=if u.at ((k:Int)+1) then some u else findL ((k:Int)+1) l from rfl]
   cases hu:u.ended with
   |true=>
    have:u.at ((k:Int)+1)=false:=by unfold Th.at;simp[hu]
    rw[this]
    simp
   |false=>
    by_cases e:u.h=k
    ·have:u.at ((k:Int)+1)=true:=by unfold Th.at;simp[hu,e]
     rw[this]
     have hf:findL ((k:Int)+1) l=none:=pR (fun v hv e2=>by
      rw[aA,hu] at hn
      simp at hn
      exact hn.1 v hv (by omega))
     rw[hf]
     simp[e]
    ·have:u.at ((k:Int)+1)=false:=by
      unfold Th.at
      simp
      intro _ e2
      omega
     rw[this]
     simp[e]
  rw[e1]
  cases hu:u.ended with
  |true=>first|(simp;done)|(simp;omega)
  |false=>
   simp only[true_and]
   by_cases h1:u.h<k
   ·rw[if_pos h1,if_neg (by omega),if_pos (by omega)];omega
   ·by_cases h2:u.h=k
    ·rw[if_neg h1,if_pos h2,if_pos (by omega)];omega
    ·rw[if_neg h1,if_neg h2,if_neg (by omega)];omega
theorem yE{φ:Th→Nat}{N:Nat}:∀{l:List Th},((aL l).map Th.h).Nodup→(∀t,t∈aL l→t.h<N)→ou φ l N=sumL φ l
 |[],_,_=>by
  have:∀k,ou φ [] k=0:=fun k=>by
   induction k with
   |zero=>rfl
   |succ k ih=>show ou φ [] k+LZ φ [] _=0;rw[ih];rfl
  rw[this]
  rfl
 |u::l,hn,hlt=>by
  have hn2:((aL l).map Th.h).Nodup:=by
   rw[aA] at hn
   cases hu:u.ended with
   |true=>rw[hu] at hn;simpa using hn
   |false=>rw[hu] at hn;simp at hn;exact hn.2
  rw[vX hn,aZ,yE hn2 (fun t ht=>hlt t (by rw[aA];split;exact ht;exact List.mem_cons_of_mem _ ht))]
  cases hu:u.ended with
  |true=>simp
  |false=>
   rw[if_pos ⟨rfl,hlt u (by rw[aA,hu];simp)⟩]
   simp
   omega
theorem JD(φ:Th→Nat)(D:Wd):∀k,sumR φ D k=ou φ D.ts k
 |0=>rfl
 |k+1=>by
  show sumR φ D k+atD φ D _=ou φ D.ts k+LZ φ D.ts _
  rw[JD φ D k]
  rfl
theorem sumR_all{φ:Th→Nat}{D:Wd}{N:Nat}(S:San D)(hlt:∀t,t∈D.live→t.h<N):sumR φ D N=sumL φ D.ts:=(JD φ D N).trans (yE S.nd hlt)
section
variable {c:Cf} {D:Wd} {t u:Th} {r x:Int} {w wr:World} {p:Pl} {zs:List Int}
end
theorem Aq(y:Int):∀l:List Int,fD y l≤l.length
 |[]=>Nat.le_refl _
 |a::l=>by
  have:=Aq y l
  unfold fD
  rw[List.length_cons]
  split<;>omega
theorem sumL_mulle{φ ψ:Th→Nat}(M:Nat):∀{l:List Th},(∀t,t∈aL l→φ t≤M*ψ t)→sumL φ l≤M*sumL ψ l
 |[],_=>by simp[sumL,aL]
 |u::l,h=>by
  have h1:=sumL_mulle M (l:=l) (fun t ht=>h t (by rw[aA];split;exact ht;exact List.mem_cons_of_mem _ ht))
  rw[aZ,aZ,Nat.mul_add]
  cases hu:u.ended with
  |true=>simp;exact h1
  |false=>
   have h2:=h u (by rw[aA,hu];simp)
   simp
   omega
def Ke(w:World)(p:Pl)(c:Cf)(q k:Nat)(D:Wd)(hold:Nat→Nat)(wr:World):Prop:=
 RSt w p c D wr∧fV hold k D∧Blk wr q (ji (fun i=>.int .i64 ((hold i:Nat):Int)) c.N) 3∧¬lD p q∧w.heap.size≤q
section
variable {w wr w':World} {p:Pl} {c:Cf} {q k:Nat} {D D':Wd} {hold hold':Nat→Nat} {t:Th} {r x i:Int}
theorem Ke.later(h:Ke w p c q k D hold wr)(hb:Below wr.heap.size wr w'):Ke w p c q k D hold w':=⟨h.1.later hb,h.2.1,h.2.2.1.later hb,h.2.2.2.1,h.2.2.2.2⟩
theorem RSt.nmBd(h:RSt w p c D wr)(S:San D)(y:Int):sumL (nmT y) D.ts≤100000*c.N:=by
 have h1:=h.sizes
 have h2:=h.total S
 refine Nat.le_trans (sumL_mulle (φ:=nmT y) (ψ:=occT) 100000 (fun t ht=> ?_)) (Nat.mul_le_mul_left _ (by omega))
 have h3:nmT y t≤t.pt.length:=Aq y t.pt
 have h4:=h1 t ht
 have h5:1≤occT t:=by unfold occT;split<;>omega
 have h6:100000*1≤100000*occT t:=Nat.mul_le_mul_left _ h5
 omega
theorem Ke.refs(h:Ke w p c q k D hold wr)(hN:c.N≤1000)(hk:k≤1000)(ht:t∈D.live):0≤t.mr.refs∧t.mr.refs<4294967295:=by
 have h1:=h.1.nmBd h.2.1.san ((t.h:Int)+1)
 have h2:=h.2.1.nam.cnt t ht
 have h3:=h.2.1.bd t.h
 have h4:100000*c.N≤100000*1000:=Nat.mul_le_mul_left _ hN
 omega
theorem fV.ML(I:fV hold k D){b:Nat}(hb:hold b≠0):∃t,t∈D.live∧t.h=b∧t.mr.dead=false∧t.mr.refs≠0∧D.find ((b:Int)+1)=some t:=by
 have:∃t,t∈D.live∧t.h=b:=by
  apply Classical.byContradiction
  intro hc
  exact hb (I.out b (fun t ht e=>hc ⟨t,ht,e⟩))
 obtain⟨t,ht,rfl⟩:=this
 have h1:=I.nam.cnt t ht
 have h2:t.mr.refs≠0:=by omega
 refine⟨t,ht,rfl,?_,h2,I.san.bE ht⟩
 cases hd:t.mr.dead with
 |false=>rfl
 |true=>exact absurd (I.nam.gJ t ht hd) h2
theorem Ke.does{f:FuncId}{args:List Value}{B:Nat}{v:Value}(h:Ke w p c q k D hold wr)(ha:Does c D f args B D' v)(I:fV hold k D'):
  Calls Tryz.prog f (List.toArray (.pointer (some ⟨p.a,0,none⟩)::args)) wr fun e w'=>e=.returned v∧Ke w p c q k D' hold w'∧Touch (inG p) wr w':=by
 refine(h.1.does ha).mono ?_
 rintro e w' ⟨rfl,h1,hT⟩
 exact⟨rfl,⟨h1,I,h.2.2.1.touch hT (fun hx=>h.2.2.2.1 (Or.inr hx)),h.2.2.2⟩,hT⟩
theorem Ke.put(h:RSt w p c D wr)(I:fV hold' k D)(hb:Blk wr q (ji (fun i=>.int .i64 ((hold i:Nat):Int)) c.N) 3)(hq:¬lD p q)(hl:w.heap.size≤q){b:Nat}{v:Int}(hv:v=((hold' b:Nat):Int))(hh:∀h,h≠b→hold' h=hold h):Ke w p c q k D hold' (wr.setCell ⟨q,b,none⟩ (.int .i64 v)):=by
 have hT:=(Touch.refl (fun i=>i=q) wr).setCell (p:=⟨q,b,none⟩) (fun _=>rfl) (.int .i64 v)
 refine⟨h.touch hT (fun i hi e=>hq (e▸hi)) (fun i e=>by rw[e];exact hl),I,?_,hq,hl⟩
 have:=hb.set b (.int .i64 v)
 rw[Al] at this
 rw[show ji (fun i=>Value.int .i64 ((hold' i:Nat):Int)) c.N=ji (fun j=>if j=b then Value.int .i64 v else Value.int .i64 ((hold j:Nat):Int)) c.N from uP (fun j _=>by
  by_cases e:j=b
  ·rw[if_pos e,e,hv]
  ·rw[if_neg e,hh j e])]
 exact this
end
section
variable {w wr:World} {p:Pl} {c:Cf} {q k:Nat} {D:Wd} {hold:Nat→Nat}
end
section
variable {D:Wd} {c:Cf} {w wr:World} {p:Pl} {N k:Nat} {L:List Int} {r:Int} {t:Th}
structure wN (L:List Int) (D:Wd):Prop where
 san:San D
 nam:gH (fun _=>0) D
 nd:(D.ts.map Th.h).Nodup
 refs:D.allR=L
theorem wN.inter(F:wN L D)(x:Int):wN L (D.inter x):=⟨F.san.inter x,F.nam.inter F.san x,by rw[inter_hd];exact F.nd,(refs_hd (inter_hd x)).trans F.refs⟩
theorem wN.step(F:wN L D):wN L D.step:=⟨F.san.step,F.nam.step F.san,by rw[zD];exact F.nd,(refs_hd zD).trans F.refs⟩
theorem wN.sum(F:wN L D)(φ:Th→Nat):sumK (atD φ D) L L.length=sumL φ D.ts:=by rw[←F.refs];exact JE F.nd φ
theorem wN.named(F:wN L D)(hf:D.find r=some t):D.cnt r=((sumK (atD (nmT r) D) L L.length:Nat):Int):=by
 obtain⟨htl,e⟩:=find_live hf
 rw[F.sum]
 unfold Wd.cnt
 rw[hf,←e]
 show t.mr.refs=_
 rw[F.nam.cnt t htl]
 simp
end
theorem KH{w:World}{a:Option Addr}{rs:List (List Fld)}(hr:Recs w a [.int .u8,.int .i64,.int .i64,.int .i64,.int .i64,.int .i64] rs){k:Nat}(hk:k<rs.length):
  ∃(b off:Nat) (kd r i x y z:Int),a=some ⟨b,off,none⟩∧b<w.heap.size∧w.cell? ⟨b,off+k*6,none⟩=some (.int .u8 kd)∧w.cell? ⟨b,off+k*6+1,none⟩=some (.int .i64 r)∧w.cell? ⟨b,off+k*6+2,none⟩=some (.int .i64 i)∧w.cell? ⟨b,off+k*6+3,none⟩=some (.int .i64 x)∧w.cell? ⟨b,off+k*6+4,none⟩=some (.int .i64 y)∧w.cell? ⟨b,off+k*6+5,none⟩=some (.int .i64 z)∧0≤kd∧In64 r∧In64 x:=by
 obtain⟨h1,b,off,ha,hb,hc⟩:=hr k rs[k] (by simp[hk])
 generalize rs[k]=r at h1 hc
 have hl:r.length=6:=by have:=congrArg List.length h1;simpa using this
 match r,hl with
 |[f0,f1,f2,f3,f4,f5],_=>
  simp at h1
  obtain⟨k0,k1,k2,k3,k4,k5⟩:=h1
  have c0:=hc 0 f0 rfl
  have c1:=hc 1 f1 rfl
  have c2:=hc 2 f2 rfl
  have c3:=hc 3 f3 rfl
  have c4:=hc 4 f4 rfl
  have c5:=hc 5 f5 rfl
  cases f0<;>simp[Fld.kd] at k0
  cases f1<;>simp[Fld.kd] at k1
  cases f2<;>simp[Fld.kd] at k2
  cases f3<;>simp[Fld.kd] at k3
  cases f4<;>simp[Fld.kd] at k4
  cases f5<;>simp[Fld.kd] at k5
  subst k0 k1 k2 k3 k4 k5
  refine⟨b,off,_,_,_,_,_,_,ha,hb,by simpa[Fld.val] using c0.1,by simpa[Fld.val] using c1.1,by simpa[Fld.val] using c2.1,by simpa[Fld.val] using c3.1,by simpa[Fld.val] using c4.1,by simpa[Fld.val] using c5.1,?_,?_,?_⟩
  ·have:=c0.2
   simp[Fld.ok,Lit.wf,IntKind.min,IntKind.max,IntKind.bits,IntKind.signed] at this
   omega
  ·have:=c1.2
   simp[Fld.ok,Lit.wf,IntKind.min,IntKind.max,IntKind.bits,IntKind.signed] at this
   unfold In64
   omega
  ·have:=c3.2
   simp[Fld.ok,Lit.wf,IntKind.min,IntKind.max,IntKind.bits,IntKind.signed] at this
   unfold In64
   omega
end Go.Proofs.YtbhhfnlkpieebaaGreat.Pk
