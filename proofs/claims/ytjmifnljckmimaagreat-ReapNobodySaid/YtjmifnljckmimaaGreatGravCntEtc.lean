/-
  Texts laid together: GravCnt, GraveLaw, GravGrow, GravNamed, TallyFn, FloodFn.
-/
import Derived.Test.YtjmifnljckmimaaGreatGraveFnEtc
import Derived.Test.YtjmifnljckmimaaGreatRefMkEtc
import Derived.Test.YtjmifnljckmimaaGreatActsWzEtc
import Derived.Test.YtjmifnljckmimaaGreatPoolFnEtc
import Derived.Test.YtjmifnljckmimaaGreatRingFn3Etc
import Derived.Test.YtjmifnljckmimaaGreatCountFnEtc
import Derived.Test.YtjmifnljckmimaaGreatRingFnEtc
import Derived.Test.YtjmifnljckmimaaGreatTagFnEtc
namespace Go.Proofs.YtjmifnljckmimaaGreat.Pk
open Lib (hid)
open Go.RowKit
set_option linter.unusedVariables false
set_option linter.unusedSimpArgs false
set_option maxRecDepth 100000
def eG(y:Int):List Int→Nat
 |[]=>0
 |a::l=>(if a=y then 1 else 0)+eG y l
theorem nN(y x:Int):∀(l:List Int) (i:Nat),i<l.length→eG y (l.set i x)+(if nth l i=y then 1 else 0)=eG y l+(if x=y then 1 else 0)
 |[],i,h=>by simp at h
 |a::l,0,_=>by
  show(if x=y then 1 else 0)+eG y l+(if a=y then 1 else 0)=(if a=y then 1 else 0)+eG y l+(if x=y then 1 else 0)
  omega
 |a::l,i+1,h=>by
  have:=nN y x l i (by simpa using h)
  show(if a=y then 1 else 0)+eG y (l.set i x)+(if nth l i=y then 1 else 0)=(if a=y then 1 else 0)+eG y l+(if x=y then 1 else 0)
  omega
theorem Bj{y:Int}:∀{l:List Int} {i:Nat},i<l.length→nth l i=y→1≤eG y l
 |[],i,h,_=>by simp at h
 |a::l,0,_,e=>by
  have:a=y:=e
  unfold eG
  rw[if_pos this]
  omega
 |a::l,i+1,h,e=>by
  have:=Bj (l:=l) (i:=i) (by simpa using h) e
  unfold eG
  omega
theorem rM{y:Int}(hy:y≠0):∀{l:List Int},(∀i,nth l i=0)→eG y l=0
 |[],_=>rfl
 |a::l,h=>by
  have h0:a=0:=h 0
  unfold eG
  rw[if_neg (by omega),rM hy (fun i=>h (i+1))]
def fG(y:Int)(t:Th):Nat:=eG y t.pt
structure dX (hold:Nat→Nat) (D:Wd):Prop where
 cnt:∀t,t∈D.live→t.mr.refs=((hold t.h+aj (fG ((t.h:Int)+1)) D.ts:Nat):Int)
 good:∀t,t∈D.live→∀i,i<t.pt.length→nth t.pt i=0∨∃u,u∈D.live∧(u.h:Int)+1=nth t.pt i
 zer:∀t,t∈D.live→t.mr.dead=true→t.mr.refs=0
section
variable {D D':Wd} {r:Int} {t s u:Th} {hold:Nat→Nat}
theorem dX.of(N:dX hold D)(h1:∀s,s∈D'.live→∃u,u∈D.live∧s.h=u.h∧s.mr.refs=u.mr.refs∧s.pt=u.pt∧(s.mr.dead=true→u.mr.dead=true∨u.mr.refs=0))(h2:D'.live.map Th.h=D.live.map Th.h)(h3:∀y,aj (fG y) D'.ts=aj (fG y) D.ts):dX hold D':=by
 refine⟨fun s hs=> ?_,fun s hs i hi=> ?_,fun s hs hd=> ?_⟩
 ·obtain⟨u,hu,e1,e2,e3,e4⟩:=h1 s hs
  rw[e1,e2,h3]
  exact N.cnt u hu
 ·obtain⟨u,hu,e1,e2,e3,e4⟩:=h1 s hs
  rw[e3] at hi ⊢
  rcases N.good u hu i hi with h|⟨v,hv,h⟩
  ·exact .inl h
  ·obtain⟨v',k1,k2⟩:=aB h2 hv
   exact .inr ⟨v',k1,by rw[k2];exact h⟩
 ·obtain⟨u,hu,e1,e2,e3,e4⟩:=h1 s hs
  rw[e2]
  rcases e4 hd with h|h
  ·exact N.zer u hu h
  ·exact h
theorem bi(r:Int)(f:Mrk→Mrk):(D.mark r f).live.map Th.h=D.live.map Th.h:=by
 cases hf:D.find r with
 |none=>rw[bH f hf]
 |some t=>exact dh (g:=fun t=>{t with mr:=f t.mr}) hf (find_at hf).2.1 rfl
theorem oO(S:San D){f:Mrk→Mrk}(hs:s∈(D.mark r f).live):∃u,u∈D.live∧(s=u∨s={u with mr:=f u.mr}):=by
 cases hf:D.find r with
 |none=>rw[bH f hf] at hs;exact⟨s,hs,.inl rfl⟩
 |some t=>
  rcases aQ (g:=fun t=>{t with mr:=f t.mr}) S.nd hf hs with rfl|⟨h,_⟩
  ·exact⟨t,(find_live hf).1,.inr rfl⟩
  ·exact⟨s,h,.inl rfl⟩
theorem dX.mark(N:dX hold D)(S:San D)(r:Int){f:Mrk→Mrk}(h1:∀m,(f m).refs=m.refs)(h2:∀m,(f m).dead=m.dead):dX hold (D.mark r f):=by
 refine N.of (fun s hs=> ?_) (bi r f) (fun y=>dQ r (fun t=>rfl))
 obtain⟨u,hu,rfl|rfl⟩:=oO S hs
 ·exact⟨s,hu,rfl,rfl,rfl,fun h=>.inl h⟩
 ·exact⟨u,hu,rfl,h1 _,rfl,fun h=>.inl (by rw[←h2];exact h)⟩
theorem dX.bury(N:dX hold D)(S:San D){x:Int}(h0:D.cnt x=0):dX hold (D.bury x):=by
 cases hf:D.find x with
 |none=>rw[show D.bury x=D by unfold Wd.bury;rw[hf]];exact N
 |some t=>
  have hr:t.mr.refs=0:=by unfold Wd.cnt at h0;rw[hf] at h0;exact h0
  have hsum:∀y,aj (fG y) (D.bury x).ts=aj (fG y) D.ts:=fun y=>IL x (fun t _=>rfl)
  cases hd:t.mr.dead with
  |true=>rw[show D.bury x=D by unfold Wd.bury;rw[hf];simp[hd]];exact N
  |false=>
   have eb:D.bury x=D.lay x t:=by unfold Wd.bury;rw[hf];simp[hd]
   rw[eb] at hsum ⊢
   have hts:=gK (D:=D) x t
   refine N.of (fun s hs=> ?_) ?_ hsum
   ·unfold Wd.live at hs
    rw[hts] at hs
    rcases aQ (g:=fun s=>{s with mr:={s.mr with dead:=true,left:=(t.pt.length:Int),leaves:=(t.lv.length:Int)}}) S.nd hf hs with rfl|⟨h,_⟩
    ·exact⟨t,(find_live hf).1,rfl,rfl,rfl,fun _=>.inr hr⟩
    ·exact⟨s,h,rfl,rfl,rfl,fun h=>.inl h⟩
   ·unfold Wd.live
    rw[hts]
    exact dh (g:=fun s=>{s with mr:={s.mr with dead:=true,left:=(t.pt.length:Int),leaves:=(t.lv.length:Int)}}) hf (find_at hf).2.1 rfl
theorem dX.inter(N:dX hold D)(S:San D)(x:Int):dX hold (D.inter x):=by
 unfold Wd.inter
 split
 ·rename_i h;exact N.bury S h
 ·exact N
structure uh (hold:Nat→Nat) (x:Int) (D:Wd):Prop where
 cnt:∀t,t∈D.live→t.mr.refs=((hold t.h+aj (fG ((t.h:Int)+1)) D.ts+(if(t.h:Int)+1=x then 1 else 0):Nat):Int)
 good:∀t,t∈D.live→∀i,i<t.pt.length→nth t.pt i=0∨∃u,u∈D.live∧(u.h:Int)+1=nth t.pt i
 zer:∀t,t∈D.live→t.mr.dead=true→t.mr.refs=0
 there:x=0∨∃u,u∈D.live∧(u.h:Int)+1=x
theorem uh.mark{x:Int}(N:uh hold x D)(S:San D)(r:Int){f:Mrk→Mrk}(h1:∀m,(f m).refs=m.refs)(h2:∀m,(f m).dead=m.dead):uh hold x (D.mark r f):=by
 have hsum:∀y,aj (fG y) (D.mark r f).ts=aj (fG y) D.ts:=fun y=>dQ r (fun t=>rfl)
 refine⟨fun s hs=> ?_,fun s hs i hi=> ?_,fun s hs hd=> ?_,?_⟩
 ·rw[hsum]
  obtain⟨u,hu,rfl|rfl⟩:=oO S hs
  ·exact N.cnt s hu
  ·show(f u.mr).refs=_;rw[h1];exact N.cnt u hu
 ·have:∃u,u∈D.live∧s.pt=u.pt:=by
   obtain⟨u,hu,rfl|rfl⟩:=oO S hs
   ·exact⟨s,hu,rfl⟩
   ·exact⟨u,hu,rfl⟩
  obtain⟨u,hu,e⟩:=this
  rw[e] at hi ⊢
  rcases N.good u hu i hi with h|⟨v,hv,h⟩
  ·exact .inl h
  ·obtain⟨v',k1,k2⟩:=aB (bi r f) hv
   exact .inr ⟨v',k1,by rw[k2];exact h⟩
 ·obtain⟨u,hu,rfl|rfl⟩:=oO S hs
  ·exact N.zer s hu hd
  ·show(f u.mr).refs=0
   rw[h1]
   exact N.zer u hu (by rw[←h2];exact hd)
 ·rcases N.there with h|⟨u,hu,h⟩
  ·exact .inl h
  ·obtain⟨v',k1,k2⟩:=aB (bi r f) hu
   exact .inr ⟨v',k1,by rw[k2];exact h⟩
theorem dX.clear(N:dX hold D)(S:San D)(hf:D.find r=some t){i:Nat}(hi:i<t.pt.length):uh hold (nth t.pt i) (D.setP r i 0):=by
 have htl:=(find_live hf).1
 have hsum:∀y:Int,y≠0→aj (fG y) (D.setP r i 0).ts+(if nth t.pt i=y then 1 else 0)=aj (fG y) D.ts:=fun y hy=>by
  have h1:=oU (φ:=fG y) hf i 0
  have h2:=nN y 0 t.pt i hi
  rw[if_neg (Ne.symm hy)] at h2
  have h3:fG y {t with pt:=t.pt.set i 0}=eG y (t.pt.set i 0):=rfl
  have h4:fG y t=eG y t.pt:=rfl
  omega
 have hheads:(D.setP r i 0).live.map Th.h=D.live.map Th.h:=dh (g:=fun t=>{t with pt:=t.pt.set i 0}) hf (find_at hf).2.1 rfl
 have hmem:∀s,s∈(D.setP r i 0).live→s={t with pt:=t.pt.set i 0}∨(s∈D.live∧s.h≠t.h):=fun s hs=>aQ S.nd hf hs
 have hb:∀s,s∈(D.setP r i 0).live→∃u,u∈D.live∧s.h=u.h∧s.mr=u.mr:=fun s hs=>by
  rcases hmem s hs with rfl|⟨h,_⟩
  ·exact⟨t,htl,rfl,rfl⟩
  ·exact⟨s,h,rfl,rfl⟩
 refine⟨fun s hs=> ?_,fun s hs j hj=> ?_,fun s hs hd=> ?_,?_⟩
 ·obtain⟨u,hu,e1,e2⟩:=hb s hs
  have h1:=N.cnt u hu
  have h2:=hsum ((u.h:Int)+1) (by omega)
  rw[e1,e2,h1]
  have e:(if nth t.pt i=(u.h:Int)+1 then 1 else 0)=(if(u.h:Int)+1=nth t.pt i then 1 else 0):=by
   by_cases h:nth t.pt i=(u.h:Int)+1
   ·rw[if_pos h,if_pos h.symm]
   ·rw[if_neg h,if_neg (fun x=>h x.symm)]
  rw[e] at h2
  omega
 ·rcases hmem s hs with rfl|⟨h,_⟩
  ·show nth (t.pt.set i 0) j=0∨∃u:Th,u∈(D.setP r i 0).live∧(u.h:Int)+1=nth (t.pt.set i 0) j
   by_cases e:i=j
   ·subst e
    rw[aD hi]
    exact .inl rfl
   ·rw[aa e]
    rcases N.good t htl j (by simpa using hj) with h|⟨v,hv,h⟩
    ·exact .inl h
    ·obtain⟨v',k1,k2⟩:=aB hheads hv
     exact .inr ⟨v',k1,by rw[k2];exact h⟩
  ·rcases N.good s h j hj with h|⟨v,hv,h⟩
   ·exact .inl h
   ·obtain⟨v',k1,k2⟩:=aB hheads hv
    exact .inr ⟨v',k1,by rw[k2];exact h⟩
 ·obtain⟨u,hu,e1,e2⟩:=hb s hs
  rw[e2] at hd ⊢
  exact N.zer u hu hd
 ·rcases N.good t htl i hi with h|⟨v,hv,h⟩
  ·exact .inl h
  ·obtain⟨v',k1,k2⟩:=aB hheads hv
   exact .inr ⟨v',k1,by rw[k2];exact h⟩
theorem uh.none(N:uh hold 0 D):dX hold D:=⟨fun t ht=>by have:=N.cnt t ht;rw[if_neg (by omega)] at this;simpa using this,N.good,N.zer⟩
theorem uh.down{x:Int}(N:uh hold x D)(S:San D):dX hold (D.down x):=by
 have hsum:∀y,aj (fG y) (D.down x).ts=aj (fG y) D.ts:=fun y=>dQ x (fun t=>rfl)
 have hh:=bi (D:=D) x (fun m=>{m with refs:=m.refs-1})
 cases hf:D.find x with
 |none=>
  have e:D.down x=D:=bH _ hf
  rw[e]
  refine⟨fun t ht=> ?_,N.good,N.zer⟩
  have:=N.cnt t ht
  rw[if_neg (fun h=>by have:=S.findIt ht;rw[h,hf] at this;cases this)] at this
  simpa using this
 |some t=>
  obtain⟨htl,hr⟩:=find_live hf
  have hmem:∀s,s∈(D.down x).live→s={t with mr:={t.mr with refs:=t.mr.refs-1}}∨(s∈D.live∧s.h≠t.h):=fun s hs=>aQ (g:=fun t=>{t with mr:={t.mr with refs:=t.mr.refs-1}}) S.nd hf hs
  refine⟨fun s hs=> ?_,fun s hs i hi=> ?_,fun s hs hd=> ?_⟩
  ·rw[hsum]
   rcases hmem s hs with rfl|⟨h,hne⟩
   ·have:=N.cnt t htl
    rw[if_pos hr] at this
    show t.mr.refs-1=((hold t.h+aj (fG ((t.h:Int)+1)) D.ts:Nat):Int)
    omega
   ·have:=N.cnt s h
    rw[if_neg (by omega)] at this
    simpa using this
  ·have:∃u,u∈D.live∧s.pt=u.pt:=by
    rcases hmem s hs with rfl|⟨h,_⟩
    ·exact⟨t,htl,rfl⟩
    ·exact⟨s,h,rfl⟩
   obtain⟨u,hu,e⟩:=this
   rw[e] at hi ⊢
   rcases N.good u hu i hi with h|⟨v,hv,h⟩
   ·exact .inl h
   ·obtain⟨v',k1,k2⟩:=aB hh hv
    exact .inr ⟨v',k1,by rw[k2];exact h⟩
  ·rcases hmem s hs with rfl|⟨h,hne⟩
   ·exfalso
    have h0:=N.zer t htl hd
    have:=N.cnt t htl
    rw[if_pos hr] at this
    omega
   ·exact N.zer s h hd
theorem dX.drain(N:dX hold D)(S:San D)(hf:D.find r=some t){i:Nat}(hi:i<t.pt.length):dX hold (D.drain r i (nth t.pt i)):=by
 have N1:=N.clear S hf hi
 have S1:=S.setP hf i (x:=0) (fun _=>rfl)
 generalize nth t.pt i=x at N1
 unfold Wd.drain
 by_cases hc:(D.setP r i 0).cnt x=0
 ·rw[if_pos hc]
  rcases N1.there with rfl|⟨u,hu,e⟩
  ·exact N1.none
  ·exfalso
   have h1:=N1.cnt u hu
   rw[if_pos e] at h1
   unfold Wd.cnt at hc
   rw[←e,S1.findIt hu] at hc
   simp only at hc
   omega
 ·rw[if_neg hc]
  have key:∀D2:Wd,San D2→uh hold x D2→dX hold (if(D2.down x).cnt x=0 then(D2.down x).bury x else D2.down x):=fun D2 S2 N2=>by
   split
   ·rename_i h;exact(N2.down S2).bury (S2.down x) h
   ·exact N2.down S2
  have K:San (if(D.setP r i 0).counted r i then(D.setP r i 0).ah x else D.setP r i 0)∧uh hold x (if(D.setP r i 0).counted r i then(D.setP r i 0).ah x else D.setP r i 0):=by
   split
   ·refine⟨S1.ah x,?_⟩
    unfold Wd.ah
    split
    ·exact N1.mark S1 x (fun _=>rfl) (fun _=>rfl)
    ·exact N1
   ·exact⟨S1,N1⟩
  exact key _ K.1 K.2
theorem dX.step(N:dX hold D)(S:San D):dX hold D.step:=by
 cases hg:D.grave with
 |nil=>unfold Wd.step;rw[hg];exact N
 |cons q rest=>
  obtain⟨t,htl,e,hf,hd,d,es⟩:=S.head hg
  have hw:=S.w
  rw[es]
  unfold Wd.work
  by_cases ha:D.ahead t.mr.leaves<t.mr.left
  ·have h0:0≤D.ahead t.mr.leaves:=by
    unfold Wd.ahead
    refine Int.mul_nonneg ?_ (by omega)
    split<;>omega
   rw[if_pos ha]
   have hi:(t.mr.left-1).toNat<t.pt.length:=by have:=d.f1;omega
   exact(N.drain S hf hi).mark (S.drain hf _ _) _ (fun _=>rfl) (fun _=>rfl)
  ·rw[if_neg ha]
   by_cases hl:0<t.mr.leaves
   ·rw[if_pos hl]
    refine N.of (fun s hs=> ?_) ?_ (fun y=> ?_)
    ·unfold Wd.live at hs
     have hs':s∈aJ ((D.gF (q:Int) (t.mr.leaves-1).toNat (nth t.lv (t.mr.leaves-1).toNat).toNat).mark (q:Int) (fun m=>{m with leaves:=t.mr.leaves-1})).ts:=hs
     rw[fV] at hs'
     rcases aQ (g:=fun s=>{s with lv:=s.lv.set (t.mr.leaves-1).toNat (-1),mr:={s.mr with leaves:=t.mr.leaves-1}}) S.nd hf hs' with rfl|⟨h,_⟩
     ·exact⟨t,htl,rfl,rfl,rfl,fun _=>.inl hd⟩
     ·exact⟨s,h,rfl,rfl,rfl,fun h=>.inl h⟩
    ·show(aJ ((D.gF (q:Int) (t.mr.leaves-1).toNat (nth t.lv (t.mr.leaves-1).toNat).toNat).mark (q:Int) (fun m=>{m with leaves:=t.mr.leaves-1})).ts).map Th.h=_
     rw[fV]
     exact dh (g:=fun s=>{s with lv:=s.lv.set (t.mr.leaves-1).toNat (-1),mr:={s.mr with leaves:=t.mr.leaves-1}}) hf (find_at hf).2.1 rfl
    ·show aj (fG y) ((D.gF (q:Int) (t.mr.leaves-1).toNat (nth t.lv (t.mr.leaves-1).toNat).toNat).mark (q:Int) (fun m=>{m with leaves:=t.mr.leaves-1})).ts=_
     rw[fV]
     have h2:=gz (φ:=fG y) (g:=fun s=>{s with lv:=s.lv.set (t.mr.leaves-1).toNat (-1),mr:={s.mr with leaves:=t.mr.leaves-1}}) hf (find_at hf).2.1
     have h3:fG y {t with lv:=t.lv.set (t.mr.leaves-1).toNat (-1),mr:={t.mr with leaves:=t.mr.leaves-1}}=fG y t:=rfl
     have h2:_+fG y t=_+fG y {t with lv:=t.lv.set (t.mr.leaves-1).toNat (-1),mr:={t.mr with leaves:=t.mr.leaves-1}}:=h2
     omega
   ·rw[if_neg hl]
    have hl0:t.mr.leaves=0:=by have:=d.l0;omega
    have hleft:t.mr.left=0:=by rw[hl0,ahead_zero] at ha;have:=d.f0;omega
    have hz:∀i,nth t.pt i=0:=fun i=>d.zero i (by omega)
    have hlive:(({D with grave:=rest}:Wd).gH (q:Int) t.h).live=D.live.filter (fun s=>s.h !=t.h):=dn (g:=fun s=>{s with ended:=true}) (fun _=>rfl) S.nd hf
    have hmem:∀s,s∈D.live.filter (fun s=>s.h !=t.h)→s∈D.live∧s.h≠t.h:=fun s hs=>by
     have:=List.mem_filter.1 hs
     exact⟨this.1,by simpa using this.2⟩
    have hsum:∀y:Int,y≠0→aj (fG y) (bE (q:Int) (fun s=>{s with ended:=true}) D.ts)=aj (fG y) D.ts:=fun y hy=>by
     have:=qW (φ:=fG y) (g:=fun s=>{s with ended:=true}) hf rfl
     have h0:fG y t=0:=rM hy hz
     omega
    have hnone:∀s,s∈D.live→∀i,i<s.pt.length→nth s.pt i≠(t.h:Int)+1:=fun s hs i hi e2=>by
     have h1:=N.cnt t htl
     rw[N.zer t htl hd] at h1
     have h2:=qY (φ:=fG ((t.h:Int)+1)) hs
     have h3:1≤fG ((t.h:Int)+1) s:=Bj hi e2
     have h4:fG ((t.h:Int)+1) s≤aj (fG ((t.h:Int)+1)) D.ts:=h2
     omega
    show dX hold {({D with grave:=rest}:Wd).gH (q:Int) t.h with pending:=D.pending-1}
    refine⟨fun s hs=> ?_,fun s hs i hi=> ?_,fun s hs hds=> ?_⟩
    ·have hs':s∈(({D with grave:=rest}:Wd).gH (q:Int) t.h).live:=hs
     rw[hlive] at hs'
     have:=N.cnt s (hmem s hs').1
     rw[this]
     show _=((hold s.h+aj (fG ((s.h:Int)+1)) (bE (q:Int) (fun s=>{s with ended:=true}) D.ts):Nat):Int)
     rw[hsum _ (by omega)]
    ·have hs':s∈(({D with grave:=rest}:Wd).gH (q:Int) t.h).live:=hs
     rw[hlive] at hs'
     have h1:=(hmem s hs').1
     rcases N.good s h1 i hi with h|⟨v,hv,h⟩
     ·exact .inl h
     ·refine .inr ⟨v,?_,h⟩
      show v∈(({D with grave:=rest}:Wd).gH (q:Int) t.h).live
      rw[hlive]
      refine List.mem_filter.2 ⟨hv,?_⟩
      have:v.h≠t.h:=fun ex=>hnone s h1 i hi (by rw[←h,ex])
      simpa using this
    ·have hs':s∈(({D with grave:=rest}:Wd).gH (q:Int) t.h).live:=hs
     rw[hlive] at hs'
     exact N.zer s (hmem s hs').1 hds
end
theorem San.new(n:Nat){w:Nat}(h:16≤w):San (Wd.new n w):=⟨h,by simp[Wd.live,Wd.new,aJ],by simp[Wd.new],fun g hg=>absurd hg (by simp[Wd.new]),fun t ht=>absurd ht (by simp[Wd.live,Wd.new,aJ]),fun t ht=>absurd ht (by simp[Wd.live,Wd.new,aJ]),rfl⟩
theorem kT{φ:Th→Nat}:∀(l k:List Th),aj φ (l++k)=aj φ l+aj φ k
 |[],k=>by simp[aj,aJ]
 |u::l,k=>by rw[List.cons_append,aR,aR,kT l k];omega
theorem au.tC{c:Cf}{zs:List Int}{D:Wd}{t:Th}(R:au c zs D)(hm:c.May)(ht:t∈D.live):Geo D.w t:=by
 have hA:=R.heap.obs t.ob (R.obMem ht)
 have hw:=hm.w
 have hW:=R.w
 have ef:t.ob.f=t.pt.length+t.dt.length:=rfl
 have el:t.ob.lv.length=t.lv.length:=by unfold Th.ob;simp
 refine⟨fun h=> ?_,fun h=> ?_⟩
 ·have:=hA.small (by rw[ef];rw[hW] at h;exact h) hm
  have h2:t.lv.length=0:=by rw[←el,this];rfl
  exact List.length_eq_zero_iff.1 h2
 ·have hb:¬t.ob.f≤c.W-8:=by rw[ef];rw[hW] at h;exact h
  have hl:=hA.lvs
  obtain⟨_,_,h3,_⟩:=mq (W:=c.W) (n:=t.ob.f) (by omega) (by omega) (by omega) hA.size
  rw[←hl] at h3
  have h4:t.ob.f≤t.ob.lv.length*(c.W-1):=by
   have:((t.ob.lv.length*(c.W-1):Nat):Int)=(t.ob.lv.length:Int)*((c.W:Int)-1):=by rw[Int.natCast_mul];congr 1;omega
   omega
  rw[el,ef] at h4
  refine⟨fun e=> ?_,by rw[hW];exact h4⟩
  have h5:t.lv.length=0:=by rw[e];rfl
  rw[h5,Nat.zero_mul] at h4
  omega
theorem San.made{c:Cf}{zs:List Int}{D:Wd}{b np nd:Nat}{ls cl:List Nat}(S:San D)(R:au c zs (D.made b ls cl np nd))(hm:c.May):San (D.made b ls cl np nd):=by
 have hlive:=live_made (D:=D) (b:=b) (ls:=ls) (cl:=cl) (np:=np) (nd:=nd)
 have hg:(D.made b ls cl np nd).grave=D.grave:=rfl
 have hmem:∀t,t∈D.live→t∈(D.made b ls cl np nd).live:=fun t ht=>by rw[hlive];exact List.mem_append_left _ ht
 have hnew:(⟨b,ints ls,zer np,zer nd,false,Mrk.new⟩:Th)∈(D.made b ls cl np nd).live:=by rw[hlive];simp
 refine⟨S.w,R.nodup,S.gd,fun g hg=> ?_,fun t ht=> ?_,fun t ht hr=> ?_,?_⟩
 ·obtain⟨u,hu,e⟩:=S.gv g hg
  exact⟨u,hmem u hu,e⟩
 ·have hgeo:=R.tC hm ht
  rw[hlive] at ht
  rcases List.mem_append.1 ht with h|h
  ·have k:=S.ok t h
   exact⟨hgeo,k.iff_,k.dead,k.alive⟩
  ·obtain rfl:=List.mem_singleton.1 h
   refine⟨hgeo,⟨fun h=>(by cases h),fun h=> ?_⟩,fun h=>(by cases h),fun _ j hj=> ?_⟩
   ·have:=(R.bur _ hnew h).1
    exact this
   ·have hj':j<ls.length:=by simpa[ints] using hj
    exact⟨ls[j],by show(ints ls)[j]? =_;unfold ints;simp[hj']⟩
 ·rw[hlive] at ht
  rcases List.mem_append.1 ht with h|h
  ·exact S.ring t h hr
  ·obtain rfl:=List.mem_singleton.1 h
   rfl
 ·have h1:=S.pend
  have h2:aj bU (D.ts++[(⟨b,ints ls,zer np,zer nd,false,Mrk.new⟩:Th)])=aj bU D.ts:=by
   rw[kT,aR]
   simp[bU,Mrk.new,aj,aJ]
  show D.pending=(aj bU (D.ts++[_]):Int)
  rw[h1,h2]
theorem San.mkD{c:Cf}{D:Wd}{x y:Int}(S:San D){w wr:World}{p:Pl}(h:RSt w p c (D.mkD x y) wr):San (D.mkD x y):=by
 obtain⟨zs,m,hG,hR,hp,hB⟩:=h
 unfold Wd.mkD at hR ⊢
 split
 ·rename_i h0
  rw[if_pos h0] at hR
  exact S.made hR hG.may
 ·exact S
section
variable {D D':Wd} {r x:Int} {t s u:Th} {g:Th→Th} {f:Mrk→Mrk} {hold:Nat→Nat} {φ:Th→Nat} {c:Cf} {zs:List Int}
theorem pg(hg:∀t,(g t).h=t.h)(r:Int):∀l:List Th,(bE r g l).map Th.h=l.map Th.h
 |[]=>rfl
 |u::l=>by
  unfold bE
  split
  ·simp[hg]
  ·simp[pg hg r l]
theorem dw(r:Int)(f:Mrk→Mrk):(D.mark r f).ts.map Th.h=D.ts.map Th.h:=pg (g:=fun t=>{t with mr:=f t.mr}) (fun _=>rfl) r D.ts
theorem kS(r:Int)(i:Nat)(x:Int):(D.setP r i x).ts.map Th.h=D.ts.map Th.h:=pg (g:=fun t=>{t with pt:=t.pt.set i x}) (fun _=>rfl) r D.ts
theorem FJ(x:Int):(D.bury x).ts.map Th.h=D.ts.map Th.h:=by
 unfold Wd.bury
 cases D.find x with
 |none=>rfl
 |some t=>
  simp only
  split
  ·rfl
  ·rw[gK]
   exact pg (g:=fun s=>{s with mr:={s.mr with dead:=true,left:=(t.pt.length:Int),leaves:=(t.lv.length:Int)}}) (fun _=>rfl) x D.ts
theorem lC(x:Int):(D.inter x).ts.map Th.h=D.ts.map Th.h:=by
 unfold Wd.inter
 split
 ·exact FJ x
 ·rfl
theorem Et(x:Int):(D.ah x).ts.map Th.h=D.ts.map Th.h:=by
 unfold Wd.ah
 split
 ·exact dw x _
 ·rfl
theorem Br(r:Int)(i:Nat)(x:Int):(D.drain r i x).ts.map Th.h=D.ts.map Th.h:=by
 have key:∀D2:Wd,D2.ts.map Th.h=D.ts.map Th.h→(if(D2.down x).cnt x=0 then(D2.down x).bury x else D2.down x).ts.map Th.h=D.ts.map Th.h:=fun D2 h=>by
  split
  ·rw[FJ];exact(dw x _).trans h
  ·exact(dw x _).trans h
 unfold Wd.drain
 by_cases hc:(D.setP r i 0).cnt x=0
 ·rw[if_pos hc];exact kS r i 0
 ·rw[if_neg hc]
  refine key _ ?_
  split
  ·rw[Et];exact kS r i 0
  ·exact kS r i 0
theorem Ag:D.step.ts.map Th.h=D.ts.map Th.h:=by
 unfold Wd.step
 split
 ·rfl
 ·split
  ·rfl
  ·rename_i _ q rest _ _ t _
   unfold Wd.work
   split
   ·exact(dw _ _).trans (Br _ _ _)
   ·split
    ·show((D.gF (q:Int) (t.mr.leaves-1).toNat (nth t.lv (t.mr.leaves-1).toNat).toNat).mark (q:Int) (fun m=>{m with leaves:=t.mr.leaves-1})).ts.map Th.h=_
     rw[dw]
     exact pg (g:=fun s=>{s with lv:=s.lv.set (t.mr.leaves-1).toNat (-1)}) (fun _=>rfl) _ D.ts
    ·exact pg (g:=fun s=>{s with ended:=true}) (fun _=>rfl) _ D.ts
theorem ql{h:Nat}:∀{l:List Th},(∀u,u∈l→u.h≠h)→aP ((h:Int)+1) l=none
 |[],_=>rfl
 |u::l,hn=>by
  unfold aP
  have h1:u.at ((h:Int)+1)=false:=by
   have:=hn u (by simp)
   unfold Th.at
   simp
   intro _ e
   omega
  rw[h1]
  exact ql (fun v hv=>hn v (List.mem_cons_of_mem _ hv))
theorem zk:∀{l:List Th},(l.map Th.h).Nodup→t∈l→aP ((t.h:Int)+1) l=if t.ended then none else some t
 |[],_,h=>by simp at h
 |u::l,hn,h=>by
  rw[List.map_cons,List.nodup_cons] at hn
  have hne:∀v,v∈l→v.h≠u.h:=fun v hv e=>hn.1 (e▸List.mem_map.2 ⟨v,hv,rfl⟩)
  rcases List.mem_cons.1 h with rfl|h
  ·unfold aP
   cases he:t.ended with
   |true=>
    have:t.at ((t.h:Int)+1)=false:=by unfold Th.at;simp[he]
    rw[this]
    simpa using ql hne
   |false=>
    have:t.at ((t.h:Int)+1)=true:=by unfold Th.at;simp[he]
    rw[this]
    simp
  ·have hut:=hne t h
   have:u.at ((t.h:Int)+1)=false:=by unfold Th.at;simp;intro _ e;omega
   unfold aP
   rw[this]
   exact zk hn.2 h
def Ox(φ:Th→Nat)(D:Wd)(r:Int):Nat:=match D.find r with|none=>0|some t=>φ t
def Wd.dD(D:Wd):List Int:=D.ts.map (fun t=>(t.h:Int)+1)
theorem kQ(h:D'.ts.map Th.h=D.ts.map Th.h):D'.dD=D.dD:=by
 have e:∀E:Wd,E.dD=(E.ts.map Th.h).map (fun h:Nat=>(h:Int)+1):=fun E=>by unfold Wd.dD;rw[List.map_map];rfl
 rw[e,e,h]
theorem Gv:∀l:List Th,aj φ l=(l.map (fun t=>if t.ended then 0 else φ t)).sum
 |[]=>rfl
 |u::l=>by rw[aR,Gv l];simp
def ND(f:Int→Nat)(l:List Int)(k:Nat):Nat:=((l.take k).map f).sum
theorem Lj(hn:(D.ts.map Th.h).Nodup)(φ:Th→Nat):ND (Ox φ D) D.dD D.dD.length=aj φ D.ts:=by
 unfold ND
 rw[List.take_length,Gv]
 unfold Wd.dD
 rw[List.map_map]
 congr 1
 refine List.map_congr_left (fun t ht=> ?_)
 show Ox φ D ((t.h:Int)+1)=_
 unfold Ox
 rw[show D.find ((t.h:Int)+1)=if t.ended then none else some t from zk hn ht]
 cases t.ended<;>rfl
theorem rH{y:Int}:∀{l:List Int},(∀i,i<l.length→nth l i≠y)→eG y l=0
 |[],_=>rfl
 |a::l,h=>by
  have h0:a≠y:=h 0 (by simp)
  unfold eG
  rw[if_neg h0,rH (fun i hi=>h (i+1) (by simpa using hi))]
theorem lN:∀{l:List Th},(∀t,t∈aJ l→φ t=0)→aj φ l=0
 |[],_=>rfl
 |u::l,h=>by
  rw[aR,lN (fun t ht=>h t (by rw[ax];split;exact ht;exact List.mem_cons_of_mem _ ht))]
  cases hu:u.ended with
  |true=>simp
  |false=>simp;exact h u (by rw[ax,hu];simp)
theorem Gx(hf:D.find r=some t){i:Nat}(hi:i<t.pt.length)(h0:nth t.pt i=0)(x:Int){y:Int}(hy:y≠0):aj (fG y) ((D.setP r i x).up x).ts=aj (fG y) D.ts+(if x=y then 1 else 0):=by
 have e:aj (fG y) ((D.setP r i x).up x).ts=aj (fG y) (D.setP r i x).ts:=dQ x (fun t=>rfl)
 have h1:=oU (φ:=fG y) hf i x
 have h2:=nN y x t.pt i hi
 rw[h0,if_neg (Ne.symm hy)] at h2
 have h3:fG y {t with pt:=t.pt.set i x}=eG y (t.pt.set i x):=rfl
 have h4:fG y t=eG y t.pt:=rfl
 omega
theorem dX.tie(N:dX hold D)(S:San D)(hf:D.find r=some t){i:Nat}(hi:i<t.pt.length)(h0:nth t.pt i=0)(hd:t.mr.dead=false)(hu:D.find x=some u)(hdu:u.mr.dead=false):dX hold ((D.setP r i x).up x):=by
 obtain⟨htl,hr⟩:=find_live hf
 obtain⟨hul,hx⟩:=find_live hu
 have S1:San (D.setP r i x):=S.setP hf i (fun h=>by rw[hd] at h;cases h)
 have hheads:(D.setP r i x).live.map Th.h=D.live.map Th.h:=dh (g:=fun t=>{t with pt:=t.pt.set i x}) hf (find_at hf).2.1 rfl
 have hmem:∀s,s∈(D.setP r i x).live→s={t with pt:=t.pt.set i x}∨(s∈D.live∧s.h≠t.h):=fun s hs=>aQ (g:=fun t=>{t with pt:=t.pt.set i x}) S.nd hf hs
 have hb:∀s,s∈(D.setP r i x).live→∃v,v∈D.live∧s.h=v.h∧s.mr=v.mr:=fun s hs=>by
  rcases hmem s hs with rfl|⟨h,_⟩
  ·exact⟨t,htl,rfl,rfl⟩
  ·exact⟨s,h,rfl,rfl⟩
 have hg:∀s,s∈(D.setP r i x).live→∀j,j<s.pt.length→nth s.pt j=0∨∃v,v∈D.live∧(v.h:Int)+1=nth s.pt j:=fun s hs j hj=>by
  rcases hmem s hs with rfl|⟨h,_⟩
  ·show nth (t.pt.set i x) j=0∨∃v:Th,v∈D.live∧(v.h:Int)+1=nth (t.pt.set i x) j
   by_cases e:i=j
   ·subst e
    rw[aD hi]
    exact .inr ⟨u,hul,hx⟩
   ·rw[aa e]
    exact N.good t htl j (by simpa using hj)
  ·exact N.good s h j hj
 have hl2:((D.setP r i x).up x).live.map Th.h=D.live.map Th.h:=(bi x _).trans hheads
 have hm2:∀s,s∈((D.setP r i x).up x).live→∃v,v∈(D.setP r i x).live∧((v.h:Int)+1=x∧s={v with mr:={v.mr with refs:=v.mr.refs+1}}∨(v.h:Int)+1≠x∧s=v):=fun s hs=>by
  cases hf1:(D.setP r i x).find x with
  |none=>
   have e:(D.setP r i x).up x=D.setP r i x:=bH _ hf1
   rw[e] at hs
   exact⟨s,hs,.inr ⟨fun h=>(by have:=S1.findIt hs;rw[h,hf1] at this;cases this),rfl⟩⟩
  |some u1=>
   obtain⟨k1,k2⟩:=find_live hf1
   rcases aQ (g:=fun t=>{t with mr:={t.mr with refs:=t.mr.refs+1}}) S1.nd hf1 hs with rfl|⟨h,hne⟩
   ·exact⟨u1,k1,.inl ⟨k2,rfl⟩⟩
   ·exact⟨s,h,.inr ⟨by omega,rfl⟩⟩
 refine⟨fun s hs=> ?_,fun s hs j hj=> ?_,fun s hs hds=> ?_⟩
 ·obtain⟨v,hv,h⟩:=hm2 s hs
  obtain⟨v',hv',e1,e2⟩:=hb v hv
  have hc:=N.cnt v' hv'
  have hsh:s.h=v.h:=by rcases h with⟨_,rfl⟩|⟨_,rfl⟩<;>rfl
  rw[hsh,Gx hf hi h0 x (by omega),e1]
  rcases h with⟨hxv,rfl⟩|⟨hxv,rfl⟩
  ·show v.mr.refs+1=_
   rw[e2,hc,if_pos (by omega)]
   omega
  ·rw[e2,hc,if_neg (by omega)]
   simp
 ·obtain⟨v,hv,h⟩:=hm2 s hs
  have hsp:s.pt=v.pt:=by rcases h with⟨_,rfl⟩|⟨_,rfl⟩<;>rfl
  rw[hsp] at hj ⊢
  rcases hg v hv j hj with k|⟨w,hw,k⟩
  ·exact .inl k
  ·obtain⟨w',a1,a2⟩:=aB hl2 hw
   exact .inr ⟨w',a1,by rw[a2];exact k⟩
 ·obtain⟨v,hv,h⟩:=hm2 s hs
  obtain⟨v',hv',e1,e2⟩:=hb v hv
  rcases h with⟨hxv,rfl⟩|⟨hxv,rfl⟩
  ·exfalso
   have:v'=u:=S.same hv' hul (by omega)
   rw[show({v with mr:={v.mr with refs:=v.mr.refs+1}}:Th).mr.dead=v.mr.dead from rfl,e2,this,hdu] at hds
   cases hds
  ·rw[e2] at hds ⊢
   exact N.zer v' hv' hds
theorem qF(n i:Nat):nth (zer n) i=0:=by
 unfold nth zer
 rw[List.getD_eq_getElem?_getD]
 by_cases h:i<n
 ·simp[h]
 ·simp[h]
theorem Cb{b np nd:Nat}{ls cl:List Nat}{y:Int}(hy:y≠0):aj (fG y) (D.made b ls cl np nd).ts=aj (fG y) D.ts:=by
 show aj (fG y) (D.ts++[(⟨b,ints ls,zer np,zer nd,false,Mrk.new⟩:Th)])=_
 rw[kT,aR]
 have:fG y (⟨b,ints ls,zer np,zer nd,false,Mrk.new⟩:Th)=0:=rM hy (fun i=>qF np i)
 rw[this]
 simp[aj,aJ]
theorem dX.made{b np nd:Nat}{ls cl:List Nat}(N:dX hold D)(hh:hold b=0)(hn:∀t,t∈D.live→t.h≠b):dX hold (D.made b ls cl np nd):=by
 have hmem:∀t,t∈D.live→t∈(D.made b ls cl np nd).live:=fun t ht=>by rw[live_made];exact List.mem_append_left _ ht
 refine⟨fun s hs=> ?_,fun s hs i hi=> ?_,fun s hs hd=> ?_⟩
 ·rw[Cb (by omega)]
  rw[live_made] at hs
  rcases List.mem_append.1 hs with h|h
  ·exact N.cnt s h
  ·obtain rfl:=List.mem_singleton.1 h
   show(0:Int)=((hold b+aj (fG ((b:Int)+1)) D.ts:Nat):Int)
   have h0:aj (fG ((b:Int)+1)) D.ts=0:=lN (fun t ht=>rH (fun i hi e=>by
    rcases N.good t ht i hi with h|⟨u,hu,h⟩
    ·omega
    ·exact hn u hu (by omega)))
   rw[hh,h0]
   rfl
 ·rw[live_made] at hs
  rcases List.mem_append.1 hs with h|h
  ·rcases N.good s h i hi with h|⟨u,hu,h⟩
   ·exact .inl h
   ·exact .inr ⟨u,hmem u hu,h⟩
  ·obtain rfl:=List.mem_singleton.1 h
   exact .inl (qF np i)
 ·rw[live_made] at hs
  rcases List.mem_append.1 hs with h|h
  ·exact N.zer s h hd
  ·obtain rfl:=List.mem_singleton.1 h
   rfl
theorem qz:∀{l:List Th},(∀t,t∈l→t.ended=false)→aJ l=l
 |[],_=>rfl
 |u::l,h=>by rw[ax,h u (by simp),if_neg (by simp),qz (fun t ht=>h t (List.mem_cons_of_mem _ ht))]
structure nG (N:Nat) (D:Wd) (k:Nat):Prop where
 san:San D
 nam:dX (fun _=>0) D
 bd:∀y:Int,y≠0→aj (fG y) D.ts≤k
 gr:D.grave=[]
 nd:(D.ts.map Th.h).Nodup
 all:∀t,t∈D.ts→t.ended=false
 lt:∀t,t∈D.ts→t.h<N
theorem nG.new(n:Nat){w:Nat}(h:16≤w):nG n (Wd.new n w) 0:=⟨San.new n h,⟨fun t ht=>absurd ht (by simp[Wd.live,Wd.new,aJ]),fun t ht=>absurd ht (by simp[Wd.live,Wd.new,aJ]),fun t ht=>absurd ht (by simp[Wd.live,Wd.new,aJ])⟩,fun y _=>by simp[Wd.new,aj,aJ],rfl,by simp[Wd.new],fun t ht=>absurd ht (by simp[Wd.new]),fun t ht=>absurd ht (by simp[Wd.new])⟩
theorem nG.alive{N k:Nat}(G:nG N D k)(ht:t∈D.live):t.mr.dead=false:=by
 cases h:t.mr.dead with
 |false=>rfl
 |true=>have:=(G.san.ok t ht).iff_.1 h;rw[G.gr] at this;simp at this
theorem nG.made{b np nd k:Nat}{ls cl:List Nat}(G:nG c.N D k)(R:au c zs (D.made b ls cl np nd))(hm:c.May):nG c.N (D.made b ls cl np nd) k:=by
 have hts:(D.made b ls cl np nd).ts=D.ts++[⟨b,ints ls,zer np,zer nd,false,Mrk.new⟩]:=rfl
 have hall:∀t,t∈(D.made b ls cl np nd).ts→t.ended=false:=fun t ht=>by
  rw[hts] at ht
  rcases List.mem_append.1 ht with h|h
  ·exact G.all t h
  ·obtain rfl:=List.mem_singleton.1 h;rfl
 have hl:(D.made b ls cl np nd).live=(D.made b ls cl np nd).ts:=qz hall
 have hl0:D.live=D.ts:=qz G.all
 have hnd:((D.made b ls cl np nd).ts.map Th.h).Nodup:=by rw[←hl];exact R.nodup
 refine⟨G.san.made R hm,G.nam.made rfl (fun t ht e=> ?_),fun y hy=>by rw[Cb hy];exact G.bd y hy,G.gr,hnd,hall,fun t ht=>R.hlt (by rw[hl];exact ht)⟩
 rw[hts,List.map_append,List.nodup_append] at hnd
 exact hnd.2.2 t.h (List.mem_map.2 ⟨t,by rw[←hl0];exact ht,rfl⟩) b (by simp) e
theorem nG.upd{N k k2:Nat}(G:nG N D k)(S:San D')(Nm:dX (fun _=>0) D')(hb:∀y:Int,y≠0→aj (fG y) D'.ts≤k2)(hgr:D'.grave=[])(hhd:D'.ts.map Th.h=D.ts.map Th.h)(hall:∀t,t∈D'.ts→t.ended=false):nG N D' k2:=
 ⟨S,Nm,hb,hgr,by rw[hhd];exact G.nd,hall,fun t ht=>by
  have:t.h∈D.ts.map Th.h:=by rw[←hhd];exact List.mem_map.2 ⟨t,ht,rfl⟩
  obtain⟨u,hu,e⟩:=List.mem_map.1 this
  rw[←e]
  exact G.lt u hu⟩
theorem ru(hg:∀t,(g t).ended=t.ended)(r:Int):∀{l:List Th},(∀t,t∈l→t.ended=false)→∀t,t∈bE r g l→t.ended=false
 |[],_,t,ht=>by simp[bE] at ht
 |u::l,h,t,ht=>by
  unfold bE at ht
  split at ht
  ·rcases List.mem_cons.1 ht with rfl|ht
   ·rw[hg];exact h u (by simp)
   ·exact h t (List.mem_cons_of_mem _ ht)
  ·rcases List.mem_cons.1 ht with rfl|ht
   ·exact h t (by simp)
   ·exact ru hg r (fun s hs=>h s (List.mem_cons_of_mem _ hs)) t ht
theorem nG.dye{N k:Nat}(G:nG N D k)(r:Int):nG N (D.dye r) k:=
 G.upd (G.san.mark r (fun _=>rfl) (fun _=>rfl) (fun _=>rfl)) (G.nam.mark G.san r (fun _=>rfl) (fun _=>rfl)) (fun y hy=>by
  have:aj (fG y) (D.dye r).ts=aj (fG y) D.ts:=dQ r (fun t=>rfl)
  rw[this];exact G.bd y hy) G.gr (dw r _) (ru (g:=fun t=>{t with mr:={t.mr with color:=D.parity,count:=D.parity,shade:=D.parity,shadow:=0}}) (fun _=>rfl) r G.all)
theorem nG.tie{N k:Nat}(G:nG N D k)(hf:D.find r=some t){i:Nat}(hi:i<t.pt.length)(h0:nth t.pt i=0)(hu:D.find x=some u):nG N ((D.setP r i x).up x) (k+1):=by
 have hd:=G.alive (find_live hf).1
 have hdu:=G.alive (find_live hu).1
 refine G.upd ((G.san.setP hf i (fun h=>by rw[hd] at h;cases h)).up x) (G.nam.tie G.san hf hi h0 hd hu hdu) (fun y hy=> ?_) G.gr ((dw x _).trans (kS r i x)) (ru (g:=fun t=>{t with mr:={t.mr with refs:=t.mr.refs+1}}) (fun _=>rfl) x (ru (g:=fun t=>{t with pt:=t.pt.set i x}) (fun _=>rfl) r G.all))
 rw[Gx hf hi h0 x hy]
 have:=G.bd y hy
 split<;>omega
theorem nG.more{N k k2:Nat}(G:nG N D k)(h:k≤k2):nG N D k2:=⟨G.san,G.nam,fun y hy=>Nat.le_trans (G.bd y hy) h,G.gr,G.nd,G.all,G.lt⟩
theorem nG.at{N k:Nat}(G:nG N D k){j:Nat}(hj:j<D.dD.length):∃t,t∈D.live∧nth D.dD j=(t.h:Int)+1∧D.find (nth D.dD j)=some t:=by
 have hl:j<D.ts.length:=by unfold Wd.dD at hj;simpa using hj
 have e:nth D.dD j=(D.ts[j].h:Int)+1:=by
  unfold nth Wd.dD
  rw[List.getD_eq_getElem?_getD]
  simp[hl]
 have hm:D.ts[j]∈D.live:=by unfold Wd.live;rw[qz G.all];exact List.getElem_mem hl
 refine⟨D.ts[j],hm,e,?_⟩
 rw[e]
 exact G.san.findIt hm
end
section
variable {c:Cf} {D:Wd} {t u:Th} {r x:Int} {w wr:World} {p:Pl} {zs:List Int}
theorem QY.field{v:Nat}(hm:c.May)(hw:c.W=v)(a:QY t)(g:Geo v t){i:Nat}(hi:i<t.pt.length):∃q,aS c t.ob i=some q:=by
 have hW:=hm.w
 have ef:t.ob.f=t.pt.length+t.dt.length:=rfl
 by_cases hs:t.ob.f≤c.W-8
 ·exact⟨_,by unfold aS;rw[jE hs];rfl⟩
 ·obtain⟨_,h2⟩:=g.big (by rw[←hw];omega)
  have hq:i/(c.W-1)<t.lv.length:=by
   rw[Nat.div_lt_iff_lt_mul (by omega)]
   rw[←hw] at h2
   omega
  obtain⟨b,hb⟩:=a (i/(c.W-1)) hq
  exact⟨_,by unfold aS;rw[jV hs (Gc hb)];rfl⟩
theorem find64(hm:c.May)(R:au c zs D)(hf:D.find r=some t):In64 r:=by
 obtain⟨htl,e⟩:=find_live hf
 rw[←e]
 exact R.heap.xn hm (R.obMem htl)
theorem Ka(S:San D)(hf:D.find r=some t)(hd:t.mr.dead=false)(i:Nat):Does c D 70 [.int .i64 r,.int .i64 (i:Int)] 12 D (.tuple #[.int .i64 (nth t.pt i),.int .i64 (if i<t.pt.length then 0 else 7)]):=fun zs hz R=>by
 obtain⟨htl,e⟩:=find_live hf
 have hr:=find64 hz.may R hf
 by_cases hi:i<t.pt.length
 ·obtain⟨a,ha⟩:=((S.ok t htl).alive hd).field hz.may R.w.symm (S.ok t htl).tC hi
  obtain⟨⟨d,hd,C⟩,_,_⟩:=qN hz R hr hf hi ha
  rw[if_pos hi]
  exact⟨zs,⟨d,hd,C⟩,R⟩
 ·have h:=objFns.ptr c zs D.clean D.obs r i hz R.heap hr
  have hob:=obAt_find R r
  rw[hf] at hob
  have hob:dZ D.obs r=some t.ob:=hob
  have hb:kD (i:Int) t.ob.np=false:=by
   unfold kD
   have:t.ob.np=t.pt.length:=rfl
   simp
   omega
  have e1:qM c zs D.obs r (i:Int)=nth t.pt i:=by
   unfold qM
   rw[hob]
   simp only[hb]
   rw[bR (by omega)]
   rfl
  have e2:qL c D.obs r (i:Int)=7:=by
   unfold qL
   rw[hob]
   simp[hb]
  rw[e1,e2] at h
  rw[if_neg hi]
  exact⟨zs,h,R⟩
theorem Ht(S:San D)(hf:D.find r=some t)(hd:t.mr.dead=false){i:Nat}(hi:i<t.pt.length)(hu:D.find x=some u):Does c D 71 [.int .i64 r,.int .i64 (i:Int),.int .i64 x] 12 (D.setP r i x) (.int .i64 0):=fun zs hz R=>by
 obtain⟨htl,_⟩:=find_live hf
 obtain⟨hul,e⟩:=find_live hu
 have hlt:=R.hlt hul
 obtain⟨a,ha⟩:=((S.ok t htl).alive hd).field hz.may R.w.symm (S.ok t htl).tC hi
 obtain⟨⟨d,hd,C⟩,R',_⟩:=mO hz R hf hi ha (x:=x) (by omega) (by omega)
 exact⟨_,⟨d,hd,C⟩,R'⟩
theorem Oe(hf:D.find r=some t)(hb:t.mr.refs<4294967295):Does c D 72 [.int .i64 r] 8 (D.up r) (.tuple #[.int .i64 (t.mr.refs+1),.bool true]):=fun zs hz R=>by
 obtain⟨htl,rfl⟩:=find_live hf
 have e3:nth zs (adr c t.ob.h 3)=t.mr.refs:=(R.own t htl).w3
 have h:=countFns.up_yes c zs D.clean D.obs t.ob hz R.heap (R.obMem htl) (by rw[e3];exact hb)
 rw[e3] at h
 exact⟨_,h,R.ja hz.may hz.len hf (v:=3) (.inl rfl) (x:=t.mr.refs+1) (f:=fun m=>{m with refs:=m.refs+1}) rfl⟩
theorem JY(hr:In64 r):Does c D 49 [.int .i64 r] 12 D (.bool (D.find r).isSome):=fun zs hz R=>by
 have h:=objFns.is_ c zs D.clean D.obs r hz R.heap hr
 rw[obAt_find R r,Option.isSome_map] at h
 exact⟨zs,h,R⟩
theorem Ei(hr:In64 r):Does c D 33 [.int .i64 r] 2 D (.int .i64 (D.cnt r)):=fun zs hz R=>by
 obtain⟨d,hd,C⟩:=JZ hz R hr
 exact⟨zs,⟨d,hd,C⟩,R⟩
theorem RSt.vT(h:RSt w p c D wr)(S:San D):0≤D.pending∧D.pending≤4294900000:=by
 obtain⟨zs,m,hG,hR,_⟩:=h
 have:=S.vT hR hG.may
 omega
theorem RSt.total(h:RSt w p c D wr)(S:San D):D.clean.length+aj occT D.ts=c.N:=by
 obtain⟨zs,m,hG,hR,_⟩:=h
 exact S.total hR
end
section
variable {c:Cf} {zs zs1 zs2 zs3 zs4 zs5 zs6 zs7 zs8:List Int} {d1 d2 d3 d4 d5 d6 d7 d8:Nat}
set_option maxHeartbeats 1000000 in
theorem Ay{r f n n2:Int}(hn:¬f<n)(C1:Run c 110 [.int .i64 r] zs d1 zs1 (.tuple #[.int .i64 n,.int .i64 n2,.int .i64 0])):Run c 136 [.int .i64 r,.int .i64 f] zs (d1) zs1 (.bool false):=fun p m w hG=>by
 have hle:n≤f:=by omega
 have hnf:¬f<n:=hn
 clear hn
 have HG:=hid hG
 have HC1:=hid C1
 clear hG C1
 go_enter Tryz.func136,Tryz.ntmps136
 have HT0:Hid (Touch (inG p) w w):=hid (Touch.refl _ _)
 go_wp2_with fail
 refine(HC1.out p _ _ HG.out).mono ?_
 rintro e wm1 ⟨rfl,hG,hT⟩
 have HG1:=hid hG
 have HT1:Hid (Touch (inG p) _ wm1):=hid (HT0.out.trans hT)
 clear hG hT
 go_wp2_with fail
 go_ret
 exact⟨rfl,HG1.out,HT1.out⟩
set_option maxHeartbeats 1000000 in
theorem Jb{r f n n2 x e:Int}{b:Bool}(hn:f<n)(C1:Run c 110 [.int .i64 r] zs d1 zs1 (.tuple #[.int .i64 n,.int .i64 n2,.int .i64 0]))(C2:Run c 70 [.int .i64 r,.int .i64 f] zs1 d2 zs2 (.tuple #[.int .i64 x,.int .i64 e]))(C3:Run c 181 [.int .i64 x] zs2 d3 zs3 (.bool b)):Run c 136 [.int .i64 r,.int .i64 f] zs (d1+d2+d3) zs3 (.bool true):=fun p m w hG=>by
 have hle:¬n≤f:=by omega
 have hnf:f<n:=hn
 clear hn
 have HG:=hid hG
 have HC1:=hid C1
 have HC2:=hid C2
 have HC3:=hid C3
 clear hG C1 C2 C3
 go_enter Tryz.func136,Tryz.ntmps136
 have HT0:Hid (Touch (inG p) w w):=hid (Touch.refl _ _)
 go_wp2_with fail
 refine(HC1.out p _ _ HG.out).mono ?_
 rintro e wm1 ⟨rfl,hG,hT⟩
 have HG1:=hid hG
 have HT1:Hid (Touch (inG p) _ wm1):=hid (HT0.out.trans hT)
 clear hG hT
 go_wp2_with fail
 refine(HC2.out p _ _ HG1.out).mono ?_
 rintro e wm2 ⟨rfl,hG,hT⟩
 have HG2:=hid hG
 have HT2:Hid (Touch (inG p) _ wm2):=hid (HT1.out.trans hT)
 clear hG hT
 go_wp2_with fail
 refine(HC3.out p _ _ HG2.out).mono ?_
 rintro e wm3 ⟨rfl,hG,hT⟩
 have HG3:=hid hG
 have HT3:Hid (Touch (inG p) _ wm3):=hid (HT2.out.trans hT)
 clear hG hT
 go_wp2_with fail
 go_ret
 exact⟨rfl,HG3.out.fO rfl (by dsimp only;omega),HT3.out⟩
set_option maxHeartbeats 1000000 in
theorem xW{k f v:Int}(hv:v≠1)(C1:Run c 47 [] zs d1 zs1 (.tuple #[.int .i64 k,.int .i64 f]))(C2:Run c 48 [] zs1 d2 zs2 (.int .i64 v)):Run c 76 [] zs (d1+d2) zs2 (.bool false):=fun p m w hG=>by
 have hvb:(v !=1)=true:=by rw[bne_iff_ne];exact hv
 clear hv
 have HG:=hid hG
 have HC1:=hid C1
 have HC2:=hid C2
 clear hG C1 C2
 go_enter Tryz.func76,Tryz.ntmps76
 have HT0:Hid (Touch (inG p) w w):=hid (Touch.refl _ _)
 go_wp2_with fail
 refine(HC1.out p _ _ HG.out).mono ?_
 rintro e wm1 ⟨rfl,hG,hT⟩
 have HG1:=hid hG
 have HT1:Hid (Touch (inG p) _ wm1):=hid (HT0.out.trans hT)
 clear hG hT
 go_wp2_with fail
 refine(HC2.out p _ _ HG1.out).mono ?_
 rintro e wm2 ⟨rfl,hG,hT⟩
 have HG2:=hid hG
 have HT2:Hid (Touch (inG p) _ wm2):=hid (HT1.out.trans hT)
 clear hG hT
 go_wp2_with fail
 go_ret
 exact⟨rfl,HG2.out.fO rfl (by dsimp only;omega),HT2.out⟩
set_option maxHeartbeats 1000000 in
theorem DD{k f:Int}(hk:(c.N:Int)≤k)(C1:Run c 47 [] zs d1 zs1 (.tuple #[.int .i64 k,.int .i64 f]))(C2:Run c 48 [] zs1 d2 zs2 (.int .i64 1)):Run c 76 [] zs (d1+d2) zs2 (.bool false):=fun p m w hG=>by
 have hfc:=dK (c.N:Int) (c.W:Int) (c.R:Int) (c.K:Int)
 have hkn:(c.N:Int)≤k:=hk
 clear hk
 have HG:=hid hG
 have HC1:=hid C1
 have HC2:=hid C2
 clear hG C1 C2
 go_enter Tryz.func76,Tryz.ntmps76
 have HT0:Hid (Touch (inG p) w w):=hid (Touch.refl _ _)
 go_wp2_with fail
 refine(HC1.out p _ _ HG.out).mono ?_
 rintro e wm1 ⟨rfl,hG,hT⟩
 have HG1:=hid hG
 have HT1:Hid (Touch (inG p) _ wm1):=hid (HT0.out.trans hT)
 clear hG hT
 go_wp2_with fail
 refine(HC2.out p _ _ HG1.out).mono ?_
 rintro e wm2 ⟨rfl,hG,hT⟩
 have HG2:=hid hG
 have HT2:Hid (Touch (inG p) _ wm2):=hid (HT1.out.trans hT)
 clear hG hT
 go_wp2_with fail
 refine(dE p c _ _ HG2.out).mono ?_
 rintro e wm3 ⟨rfl,hb⟩
 have HG3:=hid (HG2.out.later hb)
 have HT3:Hid (Touch (inG p) _ wm3):=hid (HT2.out.trans (Touch.of_below hb))
 clear hb
 go_wp2_with fail
 go_ret
 exact⟨rfl,HG3.out.fO rfl (by dsimp only;omega),HT3.out⟩
set_option maxHeartbeats 1000000 in
theorem Aw{k f:Int}{b:Bool}(h0:0≤k)(hk:k<(c.N:Int))(hm:c.May)(C1:Run c 47 [] zs d1 zs1 (.tuple #[.int .i64 k,.int .i64 f]))(C2:Run c 48 [] zs1 d2 zs2 (.int .i64 1))(C3:Run c 49 [.int .i64 (k+1)] zs2 d3 zs3 (.bool false))(C4:Run c 53 [.int .i64 (k+1),.int .i64 0] zs3 d4 zs4 (.bool b)):Run c 76 [] zs (d1+d2+d3+d4) zs4 (.bool b):=fun p m w hG=>by
 have hfc:=dK (c.N:Int) (c.W:Int) (c.R:Int) (c.K:Int)
 have hmn:=hm.n
 have hkn:¬(c.N:Int)≤k:=by omega
 have hw1:IntKind.i64.wrap (k+1)=k+1:=IntWalk.i64_in _ (by omega)
 clear hm hmn
 have HG:=hid hG
 have HC1:=hid C1
 have HC2:=hid C2
 have HC3:=hid C3
 have HC4:=hid C4
 clear hG C1 C2 C3 C4
 go_enter Tryz.func76,Tryz.ntmps76
 have HT0:Hid (Touch (inG p) w w):=hid (Touch.refl _ _)
 go_wp2_with fail
 refine(HC1.out p _ _ HG.out).mono ?_
 rintro e wm1 ⟨rfl,hG,hT⟩
 have HG1:=hid hG
 have HT1:Hid (Touch (inG p) _ wm1):=hid (HT0.out.trans hT)
 clear hG hT
 go_wp2_with fail
 refine(HC2.out p _ _ HG1.out).mono ?_
 rintro e wm2 ⟨rfl,hG,hT⟩
 have HG2:=hid hG
 have HT2:Hid (Touch (inG p) _ wm2):=hid (HT1.out.trans hT)
 clear hG hT
 go_wp2_with fail
 refine(dE p c _ _ HG2.out).mono ?_
 rintro e wm3 ⟨rfl,hb⟩
 have HG3:=hid (HG2.out.later hb)
 have HT3:Hid (Touch (inG p) _ wm3):=hid (HT2.out.trans (Touch.of_below hb))
 clear hb
 go_wp2_with fail
 refine(HC3.out p _ _ HG3.out).mono ?_
 rintro e wm4 ⟨rfl,hG,hT⟩
 have HG4:=hid hG
 have HT4:Hid (Touch (inG p) _ wm4):=hid (HT3.out.trans hT)
 clear hG hT
 go_wp2_with fail
 refine(HC4.out p _ _ HG4.out).mono ?_
 rintro e wm5 ⟨rfl,hG,hT⟩
 have HG5:=hid hG
 have HT5:Hid (Touch (inG p) _ wm5):=hid (HT4.out.trans hT)
 clear hG hT
 go_wp2_with fail
 go_ret
 exact⟨rfl,HG5.out.fO rfl (by dsimp only;omega),HT5.out⟩
set_option maxHeartbeats 1000000 in
theorem um{k f:Int}{b:Bool}(h0:0≤k)(hk:k<(c.N:Int))(hm:c.May)(C1:Run c 47 [] zs d1 zs1 (.tuple #[.int .i64 k,.int .i64 f]))(C2:Run c 48 [] zs1 d2 zs2 (.int .i64 1))(C3:Run c 49 [.int .i64 (k+1)] zs2 d3 zs3 (.bool true))(C4:Run c 123 [.int .i64 (k+1),.int .i64 f] zs3 d4 zs4 (.bool true))(C5:Run c 53 [.int .i64 (k+1),.int .i64 0] zs4 d5 zs5 (.bool b)):Run c 76 [] zs (d1+d2+d3+d4+d5) zs5 (.bool b):=fun p m w hG=>by
 have hfc:=dK (c.N:Int) (c.W:Int) (c.R:Int) (c.K:Int)
 have hmn:=hm.n
 have hkn:¬(c.N:Int)≤k:=by omega
 have hw1:IntKind.i64.wrap (k+1)=k+1:=IntWalk.i64_in _ (by omega)
 clear hm hmn
 have HG:=hid hG
 have HC1:=hid C1
 have HC2:=hid C2
 have HC3:=hid C3
 have HC4:=hid C4
 have HC5:=hid C5
 clear hG C1 C2 C3 C4 C5
 go_enter Tryz.func76,Tryz.ntmps76
 have HT0:Hid (Touch (inG p) w w):=hid (Touch.refl _ _)
 go_wp2_with fail
 refine(HC1.out p _ _ HG.out).mono ?_
 rintro e wm1 ⟨rfl,hG,hT⟩
 have HG1:=hid hG
 have HT1:Hid (Touch (inG p) _ wm1):=hid (HT0.out.trans hT)
 clear hG hT
 go_wp2_with fail
 refine(HC2.out p _ _ HG1.out).mono ?_
 rintro e wm2 ⟨rfl,hG,hT⟩
 have HG2:=hid hG
 have HT2:Hid (Touch (inG p) _ wm2):=hid (HT1.out.trans hT)
 clear hG hT
 go_wp2_with fail
 refine(dE p c _ _ HG2.out).mono ?_
 rintro e wm3 ⟨rfl,hb⟩
 have HG3:=hid (HG2.out.later hb)
 have HT3:Hid (Touch (inG p) _ wm3):=hid (HT2.out.trans (Touch.of_below hb))
 clear hb
 go_wp2_with fail
 refine(HC3.out p _ _ HG3.out).mono ?_
 rintro e wm4 ⟨rfl,hG,hT⟩
 have HG4:=hid hG
 have HT4:Hid (Touch (inG p) _ wm4):=hid (HT3.out.trans hT)
 clear hG hT
 go_wp2_with fail
 refine(HC4.out p _ _ HG4.out).mono ?_
 rintro e wm5 ⟨rfl,hG,hT⟩
 have HG5:=hid hG
 have HT5:Hid (Touch (inG p) _ wm5):=hid (HT4.out.trans hT)
 clear hG hT
 go_wp2_with fail
 refine(HC5.out p _ _ HG5.out).mono ?_
 rintro e wm6 ⟨rfl,hG,hT⟩
 have HG6:=hid hG
 have HT6:Hid (Touch (inG p) _ wm6):=hid (HT5.out.trans hT)
 clear hG hT
 go_wp2_with fail
 go_ret
 exact⟨rfl,HG6.out.fO rfl (by dsimp only;omega),HT6.out⟩
set_option maxHeartbeats 1000000 in
theorem Av{k f:Int}{b b2:Bool}(h0:0≤k)(hk:k<(c.N:Int))(hm:c.May)(C1:Run c 47 [] zs d1 zs1 (.tuple #[.int .i64 k,.int .i64 f]))(C2:Run c 48 [] zs1 d2 zs2 (.int .i64 1))(C3:Run c 49 [.int .i64 (k+1)] zs2 d3 zs3 (.bool true))(C4:Run c 123 [.int .i64 (k+1),.int .i64 f] zs3 d4 zs4 (.bool false))(C5:Run c 136 [.int .i64 (k+1),.int .i64 f] zs4 d5 zs5 (.bool false))(C6:Run c 137 [.int .i64 (k+1)] zs5 d6 zs6 (.bool b2))(C7:Run c 53 [.int .i64 (k+1),.int .i64 0] zs6 d7 zs7 (.bool b)):Run c 76 [] zs (d1+d2+d3+d4+d5+d6+d7) zs7 (.bool b):=fun p m w hG=>by
 have hfc:=dK (c.N:Int) (c.W:Int) (c.R:Int) (c.K:Int)
 have hmn:=hm.n
 have hkn:¬(c.N:Int)≤k:=by omega
 have hw1:IntKind.i64.wrap (k+1)=k+1:=IntWalk.i64_in _ (by omega)
 clear hm hmn
 have HG:=hid hG
 have HC1:=hid C1
 have HC2:=hid C2
 have HC3:=hid C3
 have HC4:=hid C4
 have HC5:=hid C5
 have HC6:=hid C6
 have HC7:=hid C7
 clear hG C1 C2 C3 C4 C5 C6 C7
 go_enter Tryz.func76,Tryz.ntmps76
 have HT0:Hid (Touch (inG p) w w):=hid (Touch.refl _ _)
 go_wp2_with fail
 refine(HC1.out p _ _ HG.out).mono ?_
 rintro e wm1 ⟨rfl,hG,hT⟩
 have HG1:=hid hG
 have HT1:Hid (Touch (inG p) _ wm1):=hid (HT0.out.trans hT)
 clear hG hT
 go_wp2_with fail
 refine(HC2.out p _ _ HG1.out).mono ?_
 rintro e wm2 ⟨rfl,hG,hT⟩
 have HG2:=hid hG
 have HT2:Hid (Touch (inG p) _ wm2):=hid (HT1.out.trans hT)
 clear hG hT
 go_wp2_with fail
 refine(dE p c _ _ HG2.out).mono ?_
 rintro e wm3 ⟨rfl,hb⟩
 have HG3:=hid (HG2.out.later hb)
 have HT3:Hid (Touch (inG p) _ wm3):=hid (HT2.out.trans (Touch.of_below hb))
 clear hb
 go_wp2_with fail
 refine(HC3.out p _ _ HG3.out).mono ?_
 rintro e wm4 ⟨rfl,hG,hT⟩
 have HG4:=hid hG
 have HT4:Hid (Touch (inG p) _ wm4):=hid (HT3.out.trans hT)
 clear hG hT
 go_wp2_with fail
 refine(HC4.out p _ _ HG4.out).mono ?_
 rintro e wm5 ⟨rfl,hG,hT⟩
 have HG5:=hid hG
 have HT5:Hid (Touch (inG p) _ wm5):=hid (HT4.out.trans hT)
 clear hG hT
 go_wp2_with fail
 refine(HC5.out p _ _ HG5.out).mono ?_
 rintro e wm6 ⟨rfl,hG,hT⟩
 have HG6:=hid hG
 have HT6:Hid (Touch (inG p) _ wm6):=hid (HT5.out.trans hT)
 clear hG hT
 go_wp2_with fail
 refine(HC6.out p _ _ HG6.out).mono ?_
 rintro e wm7 ⟨rfl,hG,hT⟩
 have HG7:=hid hG
 have HT7:Hid (Touch (inG p) _ wm7):=hid (HT6.out.trans hT)
 clear hG hT
 go_wp2_with fail
 refine(HC7.out p _ _ HG7.out).mono ?_
 rintro e wm8 ⟨rfl,hG,hT⟩
 have HG8:=hid hG
 have HT8:Hid (Touch (inG p) _ wm8):=hid (HT7.out.trans hT)
 clear hG hT
 go_wp2_with fail
 go_ret
 exact⟨rfl,HG8.out.fO rfl (by dsimp only;omega),HT8.out⟩
set_option maxHeartbeats 1000000 in
theorem Au{k f:Int}{b:Bool}(hf0:0≤f)(hf1:f≤4294967295)(h0:0≤k)(hk:k<(c.N:Int))(hm:c.May)(C1:Run c 47 [] zs d1 zs1 (.tuple #[.int .i64 k,.int .i64 f]))(C2:Run c 48 [] zs1 d2 zs2 (.int .i64 1))(C3:Run c 49 [.int .i64 (k+1)] zs2 d3 zs3 (.bool true))(C4:Run c 123 [.int .i64 (k+1),.int .i64 f] zs3 d4 zs4 (.bool false))(C5:Run c 136 [.int .i64 (k+1),.int .i64 f] zs4 d5 zs5 (.bool true))(C6:Run c 53 [.int .i64 k,.int .i64 (f+1)] zs5 d6 zs6 (.bool b)):Run c 76 [] zs (d1+d2+d3+d4+d5+d6) zs6 (.bool b):=fun p m w hG=>by
 have hfc:=dK (c.N:Int) (c.W:Int) (c.R:Int) (c.K:Int)
 have hmn:=hm.n
 have hkn:¬(c.N:Int)≤k:=by omega
 have hw1:IntKind.i64.wrap (k+1)=k+1:=IntWalk.i64_in _ (by omega)
 have hw2:IntKind.i64.wrap (f+1)=f+1:=IntWalk.i64_in _ (by omega)
 clear hm hmn hf0 hf1
 have HG:=hid hG
 have HC1:=hid C1
 have HC2:=hid C2
 have HC3:=hid C3
 have HC4:=hid C4
 have HC5:=hid C5
 have HC6:=hid C6
 clear hG C1 C2 C3 C4 C5 C6
 go_enter Tryz.func76,Tryz.ntmps76
 have HT0:Hid (Touch (inG p) w w):=hid (Touch.refl _ _)
 go_wp2_with fail
 refine(HC1.out p _ _ HG.out).mono ?_
 rintro e wm1 ⟨rfl,hG,hT⟩
 have HG1:=hid hG
 have HT1:Hid (Touch (inG p) _ wm1):=hid (HT0.out.trans hT)
 clear hG hT
 go_wp2_with fail
 refine(HC2.out p _ _ HG1.out).mono ?_
 rintro e wm2 ⟨rfl,hG,hT⟩
 have HG2:=hid hG
 have HT2:Hid (Touch (inG p) _ wm2):=hid (HT1.out.trans hT)
 clear hG hT
 go_wp2_with fail
 refine(dE p c _ _ HG2.out).mono ?_
 rintro e wm3 ⟨rfl,hb⟩
 have HG3:=hid (HG2.out.later hb)
 have HT3:Hid (Touch (inG p) _ wm3):=hid (HT2.out.trans (Touch.of_below hb))
 clear hb
 go_wp2_with fail
 refine(HC3.out p _ _ HG3.out).mono ?_
 rintro e wm4 ⟨rfl,hG,hT⟩
 have HG4:=hid hG
 have HT4:Hid (Touch (inG p) _ wm4):=hid (HT3.out.trans hT)
 clear hG hT
 go_wp2_with fail
 refine(HC4.out p _ _ HG4.out).mono ?_
 rintro e wm5 ⟨rfl,hG,hT⟩
 have HG5:=hid hG
 have HT5:Hid (Touch (inG p) _ wm5):=hid (HT4.out.trans hT)
 clear hG hT
 go_wp2_with fail
 refine(HC5.out p _ _ HG5.out).mono ?_
 rintro e wm6 ⟨rfl,hG,hT⟩
 have HG6:=hid hG
 have HT6:Hid (Touch (inG p) _ wm6):=hid (HT5.out.trans hT)
 clear hG hT
 go_wp2_with fail
 refine(HC6.out p _ _ HG6.out).mono ?_
 rintro e wm7 ⟨rfl,hG,hT⟩
 have HG7:=hid hG
 have HT7:Hid (Touch (inG p) _ wm7):=hid (HT6.out.trans hT)
 clear hG hT
 go_wp2_with fail
 go_ret
 exact⟨rfl,HG7.out.fO rfl (by dsimp only;omega),HT7.out⟩
end
theorem yT(k c n s d g o:Int)(w:World):(Instr.field 144 (.agg #[.int .i64 k,.int .i64 c,.int .i64 n,.int .i64 s,.int .i64 d,.int .i64 g,.int .i64 o]) 3).run Tryz.prog w=.ok (.int .i64 s) w:=by kernel_rfl
theorem wR(x:Int)(h0:0≤x)(h1:x≤4294967295):∃k cc n sh dd gg o:Int,sh=uS x∧∀w:World,Calls Tryz.prog 172 #[.int .u32 x] w fun e w'=>e=.returned (.agg #[.int .i64 k,.int .i64 cc,.int .i64 n,.int .i64 sh,.int .i64 dd,.int .i64 gg,.int .i64 o])∧Below w.heap.size w w':=⟨_,_,_,_,_,_,_,rfl,fun w=>dA x w h0 h1⟩
theorem JR(w:World):Calls Tryz.prog 215 #[] w fun e w'=>e=.returned (.int .u32 16)∧Below w.heap.size w w':=by
 have HP1:=hid (fun w:World=>fe 1 0 0 1 0 0 0 w (by decide))
 have HP2:=hid (fun w:World=>fe 1 0 0 0 0 0 0 w (by decide))
 rw[show bO 1 0 0 1 0 0 0=17 from rfl] at HP1
 rw[show bO 1 0 0 0 0 0 0=1 from rfl] at HP2
 have hx:bits .xor .u32 17 1=16:=by decide
 go_enter Tryz.func215,Tryz.ntmps215
 go_wp2_with fail
 refine(HP1.out _).mono ?_
 rintro e w1 ⟨rfl,hb⟩
 have HB1:=hid hb
 clear hb
 go_wp2_with fail
 refine(HP2.out _).mono ?_
 rintro e w2 ⟨rfl,hb⟩
 have HB2:=hid (ay HB1.out hb)
 clear hb
 go_wp2_with fail
 go_ret
 exact⟨rfl,HB2.out⟩
section
variable {c:Cf} {zs zs1 zs2 zs3 zs4 zs5 zs6 zs7 zs8:List Int} {d1 d2 d3 d4 d5 d6 d7 d8:Nat}
set_option maxHeartbeats 1000000 in
theorem vg{h:Nat}{x P:Int}(hh:h<c.N)(hm:c.May)(hx:nth zs (adr c h 0)=x)(x0:0≤x)(x1:x≤4294967295)(he:uS x=P)(C1:Run c 95 [] zs d1 zs1 (.int .i64 P)):Run c 184 [.int .i64 ((h:Int)+1)] zs (1+d1) zs1 (.tuple #[]):=fun p m w hG=>by
 have hw1:IntKind.i64.wrap ((h:Int)+1-1)=(h:Int):=by rw[IntWalk.i64_in _ (by have:=hm.n;omega)];omega
 have hw2:wrap64 (h:Int)=(h:Int):=IntWalk.wrap64_in _ (by have:=hm.n;omega)
 obtain⟨k,cc,n,sh,dd,gg,o,hsh,hU⟩:=wR x x0 x1
 have hfd:=yT k cc n sh dd gg o
 rw[←hsh] at he
 have HH:=hid hh
 have HV:=hid (show 0<c.W by have:=hm.w;omega)
 have HV4:=hid (show 4<c.W by have:=hm.w;omega)
 have HX:=hid hx
 have HU:=hid hU
 have heb:(sh==P)=true:=by rw[beq_iff_eq];exact he
 clear he hh hm hx x0 x1 hsh hU
 have HG:=hid hG
 have HC1:=hid C1
 clear hG C1
 go_enter Tryz.func184,Tryz.ntmps184
 have HT0:Hid (Touch (inG p) w w):=hid (Touch.refl _ _)
 go_wp2_with fail
 refine(fA p c _ h 0 _ _ x _ HG.out HH.out HV.out rfl rfl HX.out).mono ?_
 rintro e wm1 ⟨rfl,hG,hT⟩
 have HG1:=hid hG
 have HT1:Hid (Touch (inG p) _ wm1):=hid (HT0.out.trans hT)
 clear hG hT
 go_wp2_with fail
 refine(HU.out _).mono ?_
 rintro e wm2 ⟨rfl,hb⟩
 have HG2:=hid (HG1.out.later hb)
 have HT2:Hid (Touch (inG p) _ wm2):=hid (HT1.out.trans (Touch.of_below hb))
 clear hb
 go_wp2_with fail
 refine(HC1.out p _ _ HG2.out).mono ?_
 rintro e wm3 ⟨rfl,hG,hT⟩
 have HG3:=hid hG
 have HT3:Hid (Touch (inG p) _ wm3):=hid (HT2.out.trans hT)
 clear hG hT
 go_wp2_with fail
 go_end0
 exact⟨rfl,HG3.out.fO rfl (by dsimp only[St.got,St.set]<;>omega),HT3.out⟩
set_option maxHeartbeats 1000000 in
theorem wZ{h:Nat}{x P y:Int}(hh:h<c.N)(hm:c.May)(hx:nth zs (adr c h 0)=x)(x0:0≤x)(x1:x≤4294967295)(he:uS x≠P)(hy:bits .xor .u32 x 16=y)(y0:0≤y)(y1:y≤4294967295)(C1:Run c 95 [] zs d1 zs1 (.int .i64 P)):Run c 184 [.int .i64 ((h:Int)+1)] zs (1+d1+1+1) ((zs1.set (adr c h 0) y).set (adr c h 4) 0) (.tuple #[]):=fun p m w hG=>by
 have hw1:IntKind.i64.wrap ((h:Int)+1-1)=(h:Int):=by rw[IntWalk.i64_in _ (by have:=hm.n;omega)];omega
 have hw2:wrap64 (h:Int)=(h:Int):=IntWalk.wrap64_in _ (by have:=hm.n;omega)
 obtain⟨k,cc,n,sh,dd,gg,o,hsh,hU⟩:=wR x x0 x1
 have hfd:=yT k cc n sh dd gg o
 rw[←hsh] at he
 have HH:=hid hh
 have HV:=hid (show 0<c.W by have:=hm.w;omega)
 have HV4:=hid (show 4<c.W by have:=hm.w;omega)
 have HX:=hid hx
 have HU:=hid hU
 have heb:(sh==P)=false:=by rw[beq_eq_false_iff_ne];exact he
 have HY:=hid (And.intro y0 y1)
 clear he hh hm hx x0 x1 y0 y1 hsh hU
 have HG:=hid hG
 have HC1:=hid C1
 clear hG C1
 go_enter Tryz.func184,Tryz.ntmps184
 have HT0:Hid (Touch (inG p) w w):=hid (Touch.refl _ _)
 go_wp2_with fail
 refine(fA p c _ h 0 _ _ x _ HG.out HH.out HV.out rfl rfl HX.out).mono ?_
 rintro e wm1 ⟨rfl,hG,hT⟩
 have HG1:=hid hG
 have HT1:Hid (Touch (inG p) _ wm1):=hid (HT0.out.trans hT)
 clear hG hT
 go_wp2_with fail
 refine(HU.out _).mono ?_
 rintro e wm2 ⟨rfl,hb⟩
 have HG2:=hid (HG1.out.later hb)
 have HT2:Hid (Touch (inG p) _ wm2):=hid (HT1.out.trans (Touch.of_below hb))
 clear hb
 go_wp2_with fail
 refine(HC1.out p _ _ HG2.out).mono ?_
 rintro e wm3 ⟨rfl,hG,hT⟩
 have HG3:=hid hG
 have HT3:Hid (Touch (inG p) _ wm3):=hid (HT2.out.trans hT)
 clear hG hT
 go_wp2_with fail
 refine(JR _).mono ?_
 rintro e wm4 ⟨rfl,hb⟩
 have HG4:=hid (HG3.out.later hb)
 have HT4:Hid (Touch (inG p) _ wm4):=hid (HT3.out.trans (Touch.of_below hb))
 clear hb
 go_wp2_with fail
 refine(aH p c _ h 0 _ _ y _ HG4.out HH.out HV.out rfl rfl HY.out.1 HY.out.2).mono ?_
 rintro e wm5 ⟨rfl,hG,hT⟩
 have HG5:=hid hG
 have HT5:Hid (Touch (inG p) _ wm5):=hid (HT4.out.trans hT)
 clear hG hT
 go_wp2_with fail
 refine(aH p c _ h 4 _ _ 0 _ HG5.out HH.out HV4.out rfl rfl (by omega) (by omega)).mono ?_
 rintro e wm6 ⟨rfl,hG,hT⟩
 have HG6:=hid hG
 have HT6:Hid (Touch (inG p) _ wm6):=hid (HT5.out.trans hT)
 clear hG hT
 go_wp2_with fail
 go_end0
 exact⟨rfl,HG6.out.fO rfl (by dsimp only[St.got,St.set]<;>omega),HT6.out⟩
set_option maxHeartbeats 1000000 in
theorem Eh(h14:nth zs 14=0):Run c 138 [] zs (1) zs (.bool false):=fun p m w hG=>by
 have HR14:=hid h14
 clear h14
 have HG:=hid hG
 clear hG
 go_enter Tryz.func138,Tryz.ntmps138
 have HT0:Hid (Touch (inG p) w w):=hid (Touch.refl _ _)
 go_wp2_with fail
 refine(gU p c _ 14 _ _ _ HG.out (by omega) rfl HR14.out).mono ?_
 rintro e wm1 ⟨rfl,hG,hT⟩
 have HG1:=hid hG
 have HT1:Hid (Touch (inG p) _ wm1):=hid (HT0.out.trans hT)
 clear hG hT
 go_wp2_with fail
 go_ret
 exact⟨rfl,HG1.out.fO rfl (by dsimp only[St.got,St.set]<;>omega),HT1.out⟩
set_option maxHeartbeats 1000000 in
theorem tq{r i n n2 e:Int}(h14:nth zs 14=r)(hr:r≠0)(h15:nth zs 15=i)(hi:n≤i)(C1:Run c 110 [.int .i64 r] zs d1 zs1 (.tuple #[.int .i64 n,.int .i64 n2,.int .i64 e])):Run c 138 [] zs (1+1+d1+1) (zs1.set 14 0) (.bool true):=fun p m w hG=>by
 have HR14:=hid h14
 have hrb:(r==0)=false:=by rw[beq_eq_false_iff_ne];exact hr
 clear h14 hr
 have HR15:=hid h15
 clear h15
 have HG:=hid hG
 have HC1:=hid C1
 clear hG C1
 go_enter Tryz.func138,Tryz.ntmps138
 have HT0:Hid (Touch (inG p) w w):=hid (Touch.refl _ _)
 go_wp2_with fail
 refine(gU p c _ 14 _ _ _ HG.out (by omega) rfl HR14.out).mono ?_
 rintro e wm1 ⟨rfl,hG,hT⟩
 have HG1:=hid hG
 have HT1:Hid (Touch (inG p) _ wm1):=hid (HT0.out.trans hT)
 clear hG hT
 go_wp2_with fail
 refine(gU p c _ 15 _ _ _ HG1.out (by omega) rfl HR15.out).mono ?_
 rintro e wm2 ⟨rfl,hG,hT⟩
 have HG2:=hid hG
 have HT2:Hid (Touch (inG p) _ wm2):=hid (HT1.out.trans hT)
 clear hG hT
 go_wp2_with fail
 refine(HC1.out p _ _ HG2.out).mono ?_
 rintro e wm3 ⟨rfl,hG,hT⟩
 have HG3:=hid hG
 have HT3:Hid (Touch (inG p) _ wm3):=hid (HT2.out.trans hT)
 clear hG hT
 go_wp2_with fail
 refine(aL p c _ 14 _ 0 _ HG3.out (by omega) rfl (by omega) (by omega)).mono ?_
 rintro e wm4 ⟨rfl,hG,hT⟩
 have HG4:=hid hG
 have HT4:Hid (Touch (inG p) _ wm4):=hid (HT3.out.trans hT)
 clear hG hT
 go_wp2_with fail
 go_ret
 exact⟨rfl,HG4.out.fO rfl (by dsimp only[St.got,St.set]<;>omega),HT4.out⟩
set_option maxHeartbeats 1000000 in
theorem Mw{r i n n2 e x e2:Int}{b:Bool}(h14:nth zs 14=r)(hr:r≠0)(h15:nth zs 15=i)(i0:0≤i)(i1:i<4294967295)(hi:i<n)(C1:Run c 110 [.int .i64 r] zs d1 zs1 (.tuple #[.int .i64 n,.int .i64 n2,.int .i64 e]))(C2:Run c 70 [.int .i64 r,.int .i64 i] zs1 d2 zs2 (.tuple #[.int .i64 x,.int .i64 e2]))(C3:Run c 88 [.int .i64 x] zs2 d3 zs3 (.bool b)):Run c 138 [] zs (1+1+d1+d2+d3+1) (zs3.set 15 (i+1)) (.bool true):=fun p m w hG=>by
 have hni:¬n≤i:=by omega
 have hw2:IntKind.i64.wrap (i+1)=i+1:=IntWalk.i64_in _ (by omega)
 have HR14:=hid h14
 have hrb:(r==0)=false:=by rw[beq_eq_false_iff_ne];exact hr
 clear h14 hr
 have HR15:=hid h15
 clear h15
 have HG:=hid hG
 have HC1:=hid C1
 have HC2:=hid C2
 have HC3:=hid C3
 clear hG C1 C2 C3
 go_enter Tryz.func138,Tryz.ntmps138
 have HT0:Hid (Touch (inG p) w w):=hid (Touch.refl _ _)
 go_wp2_with fail
 refine(gU p c _ 14 _ _ _ HG.out (by omega) rfl HR14.out).mono ?_
 rintro e wm1 ⟨rfl,hG,hT⟩
 have HG1:=hid hG
 have HT1:Hid (Touch (inG p) _ wm1):=hid (HT0.out.trans hT)
 clear hG hT
 go_wp2_with fail
 refine(gU p c _ 15 _ _ _ HG1.out (by omega) rfl HR15.out).mono ?_
 rintro e wm2 ⟨rfl,hG,hT⟩
 have HG2:=hid hG
 have HT2:Hid (Touch (inG p) _ wm2):=hid (HT1.out.trans hT)
 clear hG hT
 go_wp2_with fail
 refine(HC1.out p _ _ HG2.out).mono ?_
 rintro e wm3 ⟨rfl,hG,hT⟩
 have HG3:=hid hG
 have HT3:Hid (Touch (inG p) _ wm3):=hid (HT2.out.trans hT)
 clear hG hT
 go_wp2_with fail
 refine(HC2.out p _ _ HG3.out).mono ?_
 rintro e wm4 ⟨rfl,hG,hT⟩
 have HG4:=hid hG
 have HT4:Hid (Touch (inG p) _ wm4):=hid (HT3.out.trans hT)
 clear hG hT
 go_wp2_with fail
 refine(HC3.out p _ _ HG4.out).mono ?_
 rintro e wm5 ⟨rfl,hG,hT⟩
 have HG5:=hid hG
 have HT5:Hid (Touch (inG p) _ wm5):=hid (HT4.out.trans hT)
 clear hG hT
 go_wp2_with fail
 refine(aL p c _ 15 _ (i+1) _ HG5.out (by omega) rfl (by omega) (by omega)).mono ?_
 rintro e wm6 ⟨rfl,hG,hT⟩
 have HG6:=hid hG
 have HT6:Hid (Touch (inG p) _ wm6):=hid (HT5.out.trans hT)
 clear hG hT
 go_wp2_with fail
 go_ret
 exact⟨rfl,HG6.out.fO rfl (by dsimp only[St.got,St.set]<;>omega),HT6.out⟩
set_option maxHeartbeats 1000000 in
theorem zm{b:Int}(C1:Run c 183 [] zs d1 zs1 (.tuple #[.int .i64 b,.bool false])):Run c 139 [] zs (d1) zs1 (.bool false):=fun p m w hG=>by
 have HG:=hid hG
 have HC1:=hid C1
 clear hG C1
 go_enter Tryz.func139,Tryz.ntmps139
 have HT0:Hid (Touch (inG p) w w):=hid (Touch.refl _ _)
 go_wp2_with fail
 refine(HC1.out p _ _ HG.out).mono ?_
 rintro e wm1 ⟨rfl,hG,hT⟩
 have HG1:=hid hG
 have HT1:Hid (Touch (inG p) _ wm1):=hid (HT0.out.trans hT)
 clear hG hT
 go_wp2_with fail
 go_ret
 exact⟨rfl,HG1.out,HT1.out⟩
set_option maxHeartbeats 1000000 in
theorem Hf{b:Nat}(hb:b<4294967295)(C1:Run c 183 [] zs d1 zs1 (.tuple #[.int .i64 (b:Int),.bool true])):Run c 139 [] zs (d1+1+1) ((zs1.set 14 ((b:Int)+1)).set 15 0) (.bool true):=fun p m w hG=>by
 have hw1:IntKind.i64.wrap ((b:Int)+1)=(b:Int)+1:=IntWalk.i64_in _ (by omega)
 have HG:=hid hG
 have HC1:=hid C1
 clear hG C1
 go_enter Tryz.func139,Tryz.ntmps139
 have HT0:Hid (Touch (inG p) w w):=hid (Touch.refl _ _)
 go_wp2_with fail
 refine(HC1.out p _ _ HG.out).mono ?_
 rintro e wm1 ⟨rfl,hG,hT⟩
 have HG1:=hid hG
 have HT1:Hid (Touch (inG p) _ wm1):=hid (HT0.out.trans hT)
 clear hG hT
 go_wp2_with fail
 refine(aL p c _ 14 _ ((b:Int)+1) _ HG1.out (by omega) rfl (by omega) (by omega)).mono ?_
 rintro e wm2 ⟨rfl,hG,hT⟩
 have HG2:=hid hG
 have HT2:Hid (Touch (inG p) _ wm2):=hid (HT1.out.trans hT)
 clear hG hT
 go_wp2_with fail
 refine(aL p c _ 15 _ 0 _ HG2.out (by omega) rfl (by omega) (by omega)).mono ?_
 rintro e wm3 ⟨rfl,hG,hT⟩
 have HG3:=hid hG
 have HT3:Hid (Touch (inG p) _ wm3):=hid (HT2.out.trans hT)
 clear hG hT
 go_wp2_with fail
 go_ret
 exact⟨rfl,HG3.out.fO rfl (by dsimp only[St.got,St.set]<;>omega),HT3.out⟩
set_option maxHeartbeats 1000000 in
theorem BB{k f:Int}(hk:(c.N:Int)≤k)(C1:Run c 47 [] zs d1 zs1 (.tuple #[.int .i64 k,.int .i64 f])):Run c 140 [] zs (d1) zs1 (.bool false):=fun p m w hG=>by
 have hfc:=dK (c.N:Int) (c.W:Int) (c.R:Int) (c.K:Int)
 have hkn:(c.N:Int)≤k:=hk
 clear hk
 have HG:=hid hG
 have HC1:=hid C1
 clear hG C1
 go_enter Tryz.func140,Tryz.ntmps140
 have HT0:Hid (Touch (inG p) w w):=hid (Touch.refl _ _)
 go_wp2_with fail
 refine(HC1.out p _ _ HG.out).mono ?_
 rintro e wm1 ⟨rfl,hG,hT⟩
 have HG1:=hid hG
 have HT1:Hid (Touch (inG p) _ wm1):=hid (HT0.out.trans hT)
 clear hG hT
 go_wp2_with fail
 refine(dE p c _ _ HG1.out).mono ?_
 rintro e wm2 ⟨rfl,hb⟩
 have HG2:=hid (HG1.out.later hb)
 have HT2:Hid (Touch (inG p) _ wm2):=hid (HT1.out.trans (Touch.of_below hb))
 clear hb
 go_wp2_with fail
 go_ret
 exact⟨rfl,HG2.out,HT2.out⟩
set_option maxHeartbeats 1000000 in
theorem zq{k f:Int}{b:Bool}(h0:0≤k)(hk:k<(c.N:Int))(hm:c.May)(C1:Run c 47 [] zs d1 zs1 (.tuple #[.int .i64 k,.int .i64 f]))(C2:Run c 49 [.int .i64 (k+1)] zs1 d2 zs2 (.bool false))(C3:Run c 53 [.int .i64 (k+1),.int .i64 f] zs2 d3 zs3 (.bool b)):Run c 140 [] zs (d1+d2+d3) zs3 (.bool b):=fun p m w hG=>by
 have hfc:=dK (c.N:Int) (c.W:Int) (c.R:Int) (c.K:Int)
 have hmn:=hm.n
 have hkn:¬(c.N:Int)≤k:=by omega
 have hw1:IntKind.i64.wrap (k+1)=k+1:=IntWalk.i64_in _ (by omega)
 clear hm hmn
 have HG:=hid hG
 have HC1:=hid C1
 have HC2:=hid C2
 have HC3:=hid C3
 clear hG C1 C2 C3
 go_enter Tryz.func140,Tryz.ntmps140
 have HT0:Hid (Touch (inG p) w w):=hid (Touch.refl _ _)
 go_wp2_with fail
 refine(HC1.out p _ _ HG.out).mono ?_
 rintro e wm1 ⟨rfl,hG,hT⟩
 have HG1:=hid hG
 have HT1:Hid (Touch (inG p) _ wm1):=hid (HT0.out.trans hT)
 clear hG hT
 go_wp2_with fail
 refine(dE p c _ _ HG1.out).mono ?_
 rintro e wm2 ⟨rfl,hb⟩
 have HG2:=hid (HG1.out.later hb)
 have HT2:Hid (Touch (inG p) _ wm2):=hid (HT1.out.trans (Touch.of_below hb))
 clear hb
 go_wp2_with fail
 refine(HC2.out p _ _ HG2.out).mono ?_
 rintro e wm3 ⟨rfl,hG,hT⟩
 have HG3:=hid hG
 have HT3:Hid (Touch (inG p) _ wm3):=hid (HT2.out.trans hT)
 clear hG hT
 go_wp2_with fail
 refine(HC3.out p _ _ HG3.out).mono ?_
 rintro e wm4 ⟨rfl,hG,hT⟩
 have HG4:=hid hG
 have HT4:Hid (Touch (inG p) _ wm4):=hid (HT3.out.trans hT)
 clear hG hT
 go_wp2_with fail
 go_ret
 exact⟨rfl,HG4.out.fO rfl (by dsimp only;omega),HT4.out⟩
set_option maxHeartbeats 1000000 in
theorem zn{k f:Int}{b:Bool}(h0:0≤k)(hk:k<(c.N:Int))(hm:c.May)(C1:Run c 47 [] zs d1 zs1 (.tuple #[.int .i64 k,.int .i64 f]))(C2:Run c 49 [.int .i64 (k+1)] zs1 d2 zs2 (.bool true))(C3:Run c 50 [.int .i64 (k+1)] zs2 d3 zs3 (.bool true))(C4:Run c 53 [.int .i64 (k+1),.int .i64 f] zs3 d4 zs4 (.bool b)):Run c 140 [] zs (d1+d2+d3+d4) zs4 (.bool b):=fun p m w hG=>by
 have hfc:=dK (c.N:Int) (c.W:Int) (c.R:Int) (c.K:Int)
 have hmn:=hm.n
 have hkn:¬(c.N:Int)≤k:=by omega
 have hw1:IntKind.i64.wrap (k+1)=k+1:=IntWalk.i64_in _ (by omega)
 clear hm hmn
 have HG:=hid hG
 have HC1:=hid C1
 have HC2:=hid C2
 have HC3:=hid C3
 have HC4:=hid C4
 clear hG C1 C2 C3 C4
 go_enter Tryz.func140,Tryz.ntmps140
 have HT0:Hid (Touch (inG p) w w):=hid (Touch.refl _ _)
 go_wp2_with fail
 refine(HC1.out p _ _ HG.out).mono ?_
 rintro e wm1 ⟨rfl,hG,hT⟩
 have HG1:=hid hG
 have HT1:Hid (Touch (inG p) _ wm1):=hid (HT0.out.trans hT)
 clear hG hT
 go_wp2_with fail
 refine(dE p c _ _ HG1.out).mono ?_
 rintro e wm2 ⟨rfl,hb⟩
 have HG2:=hid (HG1.out.later hb)
 have HT2:Hid (Touch (inG p) _ wm2):=hid (HT1.out.trans (Touch.of_below hb))
 clear hb
 go_wp2_with fail
 refine(HC2.out p _ _ HG2.out).mono ?_
 rintro e wm3 ⟨rfl,hG,hT⟩
 have HG3:=hid hG
 have HT3:Hid (Touch (inG p) _ wm3):=hid (HT2.out.trans hT)
 clear hG hT
 go_wp2_with fail
 refine(HC3.out p _ _ HG3.out).mono ?_
 rintro e wm4 ⟨rfl,hG,hT⟩
 have HG4:=hid hG
 have HT4:Hid (Touch (inG p) _ wm4):=hid (HT3.out.trans hT)
 clear hG hT
 go_wp2_with fail
 refine(HC4.out p _ _ HG4.out).mono ?_
 rintro e wm5 ⟨rfl,hG,hT⟩
 have HG5:=hid hG
 have HT5:Hid (Touch (inG p) _ wm5):=hid (HT4.out.trans hT)
 clear hG hT
 go_wp2_with fail
 go_ret
 exact⟨rfl,HG5.out.fO rfl (by dsimp only;omega),HT5.out⟩
set_option maxHeartbeats 1000000 in
theorem BC{k f n s:Int}{b:Bool}(h0:0≤k)(hk:k<(c.N:Int))(hm:c.May)(hn:n≤s)(C1:Run c 47 [] zs d1 zs1 (.tuple #[.int .i64 k,.int .i64 f]))(C2:Run c 49 [.int .i64 (k+1)] zs1 d2 zs2 (.bool true))(C3:Run c 50 [.int .i64 (k+1)] zs2 d3 zs3 (.bool false))(C4:Run c 184 [.int .i64 (k+1)] zs3 d4 zs4 (.tuple #[]))(C5:Run c 33 [.int .i64 (k+1)] zs4 d5 zs5 (.int .i64 n))(C6:Run c 121 [.int .i64 (k+1)] zs5 d6 zs6 (.int .i64 s))(C7:Run c 53 [.int .i64 (k+1),.int .i64 f] zs6 d7 zs7 (.bool b)):Run c 140 [] zs (d1+d2+d3+d4+d5+d6+d7) zs7 (.bool b):=fun p m w hG=>by
 have hfc:=dK (c.N:Int) (c.W:Int) (c.R:Int) (c.K:Int)
 have hmn:=hm.n
 have hkn:¬(c.N:Int)≤k:=by omega
 have hw1:IntKind.i64.wrap (k+1)=k+1:=IntWalk.i64_in _ (by omega)
 clear hm hmn
 have hns:¬s<n:=by omega
 have HG:=hid hG
 have HC1:=hid C1
 have HC2:=hid C2
 have HC3:=hid C3
 have HC4:=hid C4
 have HC5:=hid C5
 have HC6:=hid C6
 have HC7:=hid C7
 clear hG C1 C2 C3 C4 C5 C6 C7
 go_enter Tryz.func140,Tryz.ntmps140
 have HT0:Hid (Touch (inG p) w w):=hid (Touch.refl _ _)
 go_wp2_with fail
 refine(HC1.out p _ _ HG.out).mono ?_
 rintro e wm1 ⟨rfl,hG,hT⟩
 have HG1:=hid hG
 have HT1:Hid (Touch (inG p) _ wm1):=hid (HT0.out.trans hT)
 clear hG hT
 go_wp2_with fail
 refine(dE p c _ _ HG1.out).mono ?_
 rintro e wm2 ⟨rfl,hb⟩
 have HG2:=hid (HG1.out.later hb)
 have HT2:Hid (Touch (inG p) _ wm2):=hid (HT1.out.trans (Touch.of_below hb))
 clear hb
 go_wp2_with fail
 refine(HC2.out p _ _ HG2.out).mono ?_
 rintro e wm3 ⟨rfl,hG,hT⟩
 have HG3:=hid hG
 have HT3:Hid (Touch (inG p) _ wm3):=hid (HT2.out.trans hT)
 clear hG hT
 go_wp2_with fail
 refine(HC3.out p _ _ HG3.out).mono ?_
 rintro e wm4 ⟨rfl,hG,hT⟩
 have HG4:=hid hG
 have HT4:Hid (Touch (inG p) _ wm4):=hid (HT3.out.trans hT)
 clear hG hT
 go_wp2_with fail
 refine(HC4.out p _ _ HG4.out).mono ?_
 rintro e wm5 ⟨rfl,hG,hT⟩
 have HG5:=hid hG
 have HT5:Hid (Touch (inG p) _ wm5):=hid (HT4.out.trans hT)
 clear hG hT
 go_wp2_with fail
 refine(HC5.out p _ _ HG5.out).mono ?_
 rintro e wm6 ⟨rfl,hG,hT⟩
 have HG6:=hid hG
 have HT6:Hid (Touch (inG p) _ wm6):=hid (HT5.out.trans hT)
 clear hG hT
 go_wp2_with fail
 refine(HC6.out p _ _ HG6.out).mono ?_
 rintro e wm7 ⟨rfl,hG,hT⟩
 have HG7:=hid hG
 have HT7:Hid (Touch (inG p) _ wm7):=hid (HT6.out.trans hT)
 clear hG hT
 go_wp2_with fail
 refine(HC7.out p _ _ HG7.out).mono ?_
 rintro e wm8 ⟨rfl,hG,hT⟩
 have HG8:=hid hG
 have HT8:Hid (Touch (inG p) _ wm8):=hid (HT7.out.trans hT)
 clear hG hT
 go_wp2_with fail
 go_ret
 exact⟨rfl,HG8.out.fO rfl (by dsimp only;omega),HT8.out⟩
set_option maxHeartbeats 1000000 in
theorem Eg{k f n s:Int}{b b2:Bool}(h0:0≤k)(hk:k<(c.N:Int))(hm:c.May)(hn:s<n)(C1:Run c 47 [] zs d1 zs1 (.tuple #[.int .i64 k,.int .i64 f]))(C2:Run c 49 [.int .i64 (k+1)] zs1 d2 zs2 (.bool true))(C3:Run c 50 [.int .i64 (k+1)] zs2 d3 zs3 (.bool false))(C4:Run c 184 [.int .i64 (k+1)] zs3 d4 zs4 (.tuple #[]))(C5:Run c 33 [.int .i64 (k+1)] zs4 d5 zs5 (.int .i64 n))(C6:Run c 121 [.int .i64 (k+1)] zs5 d6 zs6 (.int .i64 s))(C7:Run c 88 [.int .i64 (k+1)] zs6 d7 zs7 (.bool b2))(C8:Run c 53 [.int .i64 (k+1),.int .i64 f] zs7 d8 zs8 (.bool b)):Run c 140 [] zs (d1+d2+d3+d4+d5+d6+d7+d8) zs8 (.bool b):=fun p m w hG=>by
 have hfc:=dK (c.N:Int) (c.W:Int) (c.R:Int) (c.K:Int)
 have hmn:=hm.n
 have hkn:¬(c.N:Int)≤k:=by omega
 have hw1:IntKind.i64.wrap (k+1)=k+1:=IntWalk.i64_in _ (by omega)
 clear hm hmn
 have HG:=hid hG
 have HC1:=hid C1
 have HC2:=hid C2
 have HC3:=hid C3
 have HC4:=hid C4
 have HC5:=hid C5
 have HC6:=hid C6
 have HC7:=hid C7
 have HC8:=hid C8
 clear hG C1 C2 C3 C4 C5 C6 C7 C8
 go_enter Tryz.func140,Tryz.ntmps140
 have HT0:Hid (Touch (inG p) w w):=hid (Touch.refl _ _)
 go_wp2_with fail
 refine(HC1.out p _ _ HG.out).mono ?_
 rintro e wm1 ⟨rfl,hG,hT⟩
 have HG1:=hid hG
 have HT1:Hid (Touch (inG p) _ wm1):=hid (HT0.out.trans hT)
 clear hG hT
 go_wp2_with fail
 refine(dE p c _ _ HG1.out).mono ?_
 rintro e wm2 ⟨rfl,hb⟩
 have HG2:=hid (HG1.out.later hb)
 have HT2:Hid (Touch (inG p) _ wm2):=hid (HT1.out.trans (Touch.of_below hb))
 clear hb
 go_wp2_with fail
 refine(HC2.out p _ _ HG2.out).mono ?_
 rintro e wm3 ⟨rfl,hG,hT⟩
 have HG3:=hid hG
 have HT3:Hid (Touch (inG p) _ wm3):=hid (HT2.out.trans hT)
 clear hG hT
 go_wp2_with fail
 refine(HC3.out p _ _ HG3.out).mono ?_
 rintro e wm4 ⟨rfl,hG,hT⟩
 have HG4:=hid hG
 have HT4:Hid (Touch (inG p) _ wm4):=hid (HT3.out.trans hT)
 clear hG hT
 go_wp2_with fail
 refine(HC4.out p _ _ HG4.out).mono ?_
 rintro e wm5 ⟨rfl,hG,hT⟩
 have HG5:=hid hG
 have HT5:Hid (Touch (inG p) _ wm5):=hid (HT4.out.trans hT)
 clear hG hT
 go_wp2_with fail
 refine(HC5.out p _ _ HG5.out).mono ?_
 rintro e wm6 ⟨rfl,hG,hT⟩
 have HG6:=hid hG
 have HT6:Hid (Touch (inG p) _ wm6):=hid (HT5.out.trans hT)
 clear hG hT
 go_wp2_with fail
 refine(HC6.out p _ _ HG6.out).mono ?_
 rintro e wm7 ⟨rfl,hG,hT⟩
 have HG7:=hid hG
 have HT7:Hid (Touch (inG p) _ wm7):=hid (HT6.out.trans hT)
 clear hG hT
 go_wp2_with fail
 refine(HC7.out p _ _ HG7.out).mono ?_
 rintro e wm8 ⟨rfl,hG,hT⟩
 have HG8:=hid hG
 have HT8:Hid (Touch (inG p) _ wm8):=hid (HT7.out.trans hT)
 clear hG hT
 go_wp2_with fail
 refine(HC8.out p _ _ HG8.out).mono ?_
 rintro e wm9 ⟨rfl,hG,hT⟩
 have HG9:=hid hG
 have HT9:Hid (Touch (inG p) _ wm9):=hid (HT8.out.trans hT)
 clear hG hT
 go_wp2_with fail
 go_ret
 exact⟨rfl,HG9.out.fO rfl (by dsimp only;omega),HT9.out⟩
set_option maxHeartbeats 1000000 in
theorem wY{v:Int}(hv:v≠2)(C1:Run c 48 [] zs d1 zs1 (.int .i64 v)):Run c 77 [] zs (d1) zs1 (.bool false):=fun p m w hG=>by
 have hvb:(v==2)=false:=by rw[beq_eq_false_iff_ne];exact hv
 clear hv
 have HG:=hid hG
 have HC1:=hid C1
 clear hG C1
 go_enter Tryz.func77,Tryz.ntmps77
 have HT0:Hid (Touch (inG p) w w):=hid (Touch.refl _ _)
 go_wp2_with fail
 refine(HC1.out p _ _ HG.out).mono ?_
 rintro e wm1 ⟨rfl,hG,hT⟩
 have HG1:=hid hG
 have HT1:Hid (Touch (inG p) _ wm1):=hid (HT0.out.trans hT)
 clear hG hT
 go_wp2_with fail
 go_ret
 exact⟨rfl,HG1.out,HT1.out⟩
set_option maxHeartbeats 1000000 in
theorem zl(C1:Run c 48 [] zs d1 zs1 (.int .i64 2))(C2:Run c 138 [] zs1 d2 zs2 (.bool true)):Run c 77 [] zs (d1+d2) zs2 (.bool true):=fun p m w hG=>by
 have HG:=hid hG
 have HC1:=hid C1
 have HC2:=hid C2
 clear hG C1 C2
 go_enter Tryz.func77,Tryz.ntmps77
 have HT0:Hid (Touch (inG p) w w):=hid (Touch.refl _ _)
 go_wp2_with fail
 refine(HC1.out p _ _ HG.out).mono ?_
 rintro e wm1 ⟨rfl,hG,hT⟩
 have HG1:=hid hG
 have HT1:Hid (Touch (inG p) _ wm1):=hid (HT0.out.trans hT)
 clear hG hT
 go_wp2_with fail
 refine(HC2.out p _ _ HG1.out).mono ?_
 rintro e wm2 ⟨rfl,hG,hT⟩
 have HG2:=hid hG
 have HT2:Hid (Touch (inG p) _ wm2):=hid (HT1.out.trans hT)
 clear hG hT
 go_wp2_with fail
 go_ret
 exact⟨rfl,HG2.out.fO rfl (by dsimp only;omega),HT2.out⟩
set_option maxHeartbeats 1000000 in
theorem ve(C1:Run c 48 [] zs d1 zs1 (.int .i64 2))(C2:Run c 138 [] zs1 d2 zs2 (.bool false))(C3:Run c 139 [] zs2 d3 zs3 (.bool true)):Run c 77 [] zs (d1+d2+d3) zs3 (.bool true):=fun p m w hG=>by
 have HG:=hid hG
 have HC1:=hid C1
 have HC2:=hid C2
 have HC3:=hid C3
 clear hG C1 C2 C3
 go_enter Tryz.func77,Tryz.ntmps77
 have HT0:Hid (Touch (inG p) w w):=hid (Touch.refl _ _)
 go_wp2_with fail
 refine(HC1.out p _ _ HG.out).mono ?_
 rintro e wm1 ⟨rfl,hG,hT⟩
 have HG1:=hid hG
 have HT1:Hid (Touch (inG p) _ wm1):=hid (HT0.out.trans hT)
 clear hG hT
 go_wp2_with fail
 refine(HC2.out p _ _ HG1.out).mono ?_
 rintro e wm2 ⟨rfl,hG,hT⟩
 have HG2:=hid hG
 have HT2:Hid (Touch (inG p) _ wm2):=hid (HT1.out.trans hT)
 clear hG hT
 go_wp2_with fail
 refine(HC3.out p _ _ HG2.out).mono ?_
 rintro e wm3 ⟨rfl,hG,hT⟩
 have HG3:=hid hG
 have HT3:Hid (Touch (inG p) _ wm3):=hid (HT2.out.trans hT)
 clear hG hT
 go_wp2_with fail
 go_ret
 exact⟨rfl,HG3.out.fO rfl (by dsimp only;omega),HT3.out⟩
set_option maxHeartbeats 1000000 in
theorem qo{b:Bool}(C1:Run c 48 [] zs d1 zs1 (.int .i64 2))(C2:Run c 138 [] zs1 d2 zs2 (.bool false))(C3:Run c 139 [] zs2 d3 zs3 (.bool false))(C4:Run c 140 [] zs3 d4 zs4 (.bool b)):Run c 77 [] zs (d1+d2+d3+d4) zs4 (.bool b):=fun p m w hG=>by
 have HG:=hid hG
 have HC1:=hid C1
 have HC2:=hid C2
 have HC3:=hid C3
 have HC4:=hid C4
 clear hG C1 C2 C3 C4
 go_enter Tryz.func77,Tryz.ntmps77
 have HT0:Hid (Touch (inG p) w w):=hid (Touch.refl _ _)
 go_wp2_with fail
 refine(HC1.out p _ _ HG.out).mono ?_
 rintro e wm1 ⟨rfl,hG,hT⟩
 have HG1:=hid hG
 have HT1:Hid (Touch (inG p) _ wm1):=hid (HT0.out.trans hT)
 clear hG hT
 go_wp2_with fail
 refine(HC2.out p _ _ HG1.out).mono ?_
 rintro e wm2 ⟨rfl,hG,hT⟩
 have HG2:=hid hG
 have HT2:Hid (Touch (inG p) _ wm2):=hid (HT1.out.trans hT)
 clear hG hT
 go_wp2_with fail
 refine(HC3.out p _ _ HG2.out).mono ?_
 rintro e wm3 ⟨rfl,hG,hT⟩
 have HG3:=hid hG
 have HT3:Hid (Touch (inG p) _ wm3):=hid (HT2.out.trans hT)
 clear hG hT
 go_wp2_with fail
 refine(HC4.out p _ _ HG3.out).mono ?_
 rintro e wm4 ⟨rfl,hG,hT⟩
 have HG4:=hid hG
 have HT4:Hid (Touch (inG p) _ wm4):=hid (HT3.out.trans hT)
 clear hG hT
 go_wp2_with fail
 go_ret
 exact⟨rfl,HG4.out.fO rfl (by dsimp only;omega),HT4.out⟩
end
end Go.Proofs.YtjmifnljckmimaaGreat.Pk
