/-
  Texts laid together: GravCnt, GraveLaw, GravGrow, GravNamed, TallyFn, LinkW, LinkFn.
-/
import Derived.Test.YtbhhfnlkpieebaaGreatGraveFnEtc
import Derived.Test.YtbhhfnlkpieebaaGreatRefMkEtc
import Derived.Test.YtbhhfnlkpieebaaGreatTintFn4Etc
import Derived.Test.YtbhhfnlkpieebaaGreatPoolFnEtc
import Derived.Test.YtbhhfnlkpieebaaGreatRingFn3Etc
import Derived.Test.YtbhhfnlkpieebaaGreatCountFnEtc
namespace Go.Proofs.YtbhhfnlkpieebaaGreat.Pk
open Lib (hid)
open Go.RowKit
set_option linter.unusedVariables false
set_option linter.unusedSimpArgs false
set_option maxRecDepth 100000
def fD(y:Int):List Int→Nat
 |[]=>0
 |a::l=>(if a=y then 1 else 0)+fD y l
theorem ql(y x:Int):∀(l:List Int) (i:Nat),i<l.length→fD y (l.set i x)+(if nth l i=y then 1 else 0)=fD y l+(if x=y then 1 else 0)
 |[],i,h=>by simp at h
 |a::l,0,_=>by
  show(if x=y then 1 else 0)+fD y l+(if a=y then 1 else 0)=(if a=y then 1 else 0)+fD y l+(if x=y then 1 else 0)
  omega
 |a::l,i+1,h=>by
  have:=ql y x l i (by simpa using h)
  show(if a=y then 1 else 0)+fD y (l.set i x)+(if nth l i=y then 1 else 0)=(if a=y then 1 else 0)+fD y l+(if x=y then 1 else 0)
  omega
theorem Ar{y:Int}:∀{l:List Int} {i:Nat},i<l.length→nth l i=y→1≤fD y l
 |[],i,h,_=>by simp at h
 |a::l,0,_,e=>by
  have:a=y:=e
  unfold fD
  rw[if_pos this]
  omega
 |a::l,i+1,h,e=>by
  have:=Ar (l:=l) (i:=i) (by simpa using h) e
  unfold fD
  omega
theorem rJ{y:Int}(hy:y≠0):∀{l:List Int},(∀i,nth l i=0)→fD y l=0
 |[],_=>rfl
 |a::l,h=>by
  have h0:a=0:=h 0
  unfold fD
  rw[if_neg (by omega),rJ hy (fun i=>h (i+1))]
def nmT(y:Int)(t:Th):Nat:=fD y t.pt
structure gH (hold:Nat→Nat) (D:Wd):Prop where
 cnt:∀t,t∈D.live→t.mr.refs=((hold t.h+sumL (nmT ((t.h:Int)+1)) D.ts:Nat):Int)
 good:∀t,t∈D.live→∀i,i<t.pt.length→nth t.pt i=0∨∃u,u∈D.live∧(u.h:Int)+1=nth t.pt i
 gJ:∀t,t∈D.live→t.mr.dead=true→t.mr.refs=0
section
variable {D D':Wd} {r:Int} {t s u:Th} {hold:Nat→Nat}
theorem gH.of(N:gH hold D)(h1:∀s,s∈D'.live→∃u,u∈D.live∧s.h=u.h∧s.mr.refs=u.mr.refs∧s.pt=u.pt∧(s.mr.dead=true→u.mr.dead=true∨u.mr.refs=0))(h2:D'.live.map Th.h=D.live.map Th.h)(h3:∀y,sumL (nmT y) D'.ts=sumL (nmT y) D.ts):gH hold D':=by
 refine⟨fun s hs=> ?_,fun s hs i hi=> ?_,fun s hs hd=> ?_⟩
 ·obtain⟨u,hu,e1,e2,e3,e4⟩:=h1 s hs
  rw[e1,e2,h3]
  exact N.cnt u hu
 ·obtain⟨u,hu,e1,e2,e3,e4⟩:=h1 s hs
  rw[e3] at hi ⊢
  rcases N.good u hu i hi with h|⟨v,hv,h⟩
  ·exact .inl h
  ·obtain⟨v',k1,k2⟩:=aM h2 hv
   exact .inr ⟨v',k1,by rw[k2];exact h⟩
 ·obtain⟨u,hu,e1,e2,e3,e4⟩:=h1 s hs
  rw[e2]
  rcases e4 hd with h|h
  ·exact N.gJ u hu h
  ·exact h
theorem bJ(r:Int)(f:df→df):(D.mark r f).live.map Th.h=D.live.map Th.h:=by
 cases hf:D.find r with
 |none=>rw[dL f hf]
 |some t=>exact dC (g:=fun t=>{t with mr:=f t.mr}) hf (aR hf).2.1 rfl
theorem oN(S:San D){f:df→df}(hs:s∈(D.mark r f).live):∃u,u∈D.live∧(s=u∨s={u with mr:=f u.mr}):=by
 cases hf:D.find r with
 |none=>rw[dL f hf] at hs;exact⟨s,hs,.inl rfl⟩
 |some t=>
  rcases bD (g:=fun t=>{t with mr:=f t.mr}) S.nd hf hs with rfl|⟨h,_⟩
  ·exact⟨t,(find_live hf).1,.inr rfl⟩
  ·exact⟨s,h,.inl rfl⟩
theorem gH.mark(N:gH hold D)(S:San D)(r:Int){f:df→df}(h1:∀m,(f m).refs=m.refs)(h2:∀m,(f m).dead=m.dead):gH hold (D.mark r f):=by
 refine N.of (fun s hs=> ?_) (bJ r f) (fun y=>eQ r (fun t=>rfl))
 obtain⟨u,hu,rfl|rfl⟩:=oN S hs
 ·exact⟨s,hu,rfl,rfl,rfl,fun h=>.inl h⟩
 ·exact⟨u,hu,rfl,h1 _,rfl,fun h=>.inl (by rw[←h2];exact h)⟩
theorem gH.bury(N:gH hold D)(S:San D){x:Int}(h0:D.cnt x=0):gH hold (D.bury x):=by
 cases hf:D.find x with
 |none=>rw[show D.bury x=D by unfold Wd.bury;rw[hf]];exact N
 |some t=>
  have hr:t.mr.refs=0:=by unfold Wd.cnt at h0;rw[hf] at h0;exact h0
  have hsum:∀y,sumL (nmT y) (D.bury x).ts=sumL (nmT y) D.ts:=fun y=>Gr x (fun t _=>rfl)
  cases hd:t.mr.dead with
  |true=>rw[show D.bury x=D by unfold Wd.bury;rw[hf];simp[hd]];exact N
  |false=>
   have eb:D.bury x=D.lay x t:=by unfold Wd.bury;rw[hf];simp[hd]
   rw[eb] at hsum ⊢
   have hts:=lay_ts (D:=D) x t
   refine N.of (fun s hs=> ?_) ?_ hsum
   ·unfold Wd.live at hs
    rw[hts] at hs
    rcases bD (g:=fun s=>{s with mr:={s.mr with dead:=true,left:=(t.pt.length:Int),leaves:=(t.lv.length:Int)}}) S.nd hf hs with rfl|⟨h,_⟩
    ·exact⟨t,(find_live hf).1,rfl,rfl,rfl,fun _=>.inr hr⟩
    ·exact⟨s,h,rfl,rfl,rfl,fun h=>.inl h⟩
   ·unfold Wd.live
    rw[hts]
    exact dC (g:=fun s=>{s with mr:={s.mr with dead:=true,left:=(t.pt.length:Int),leaves:=(t.lv.length:Int)}}) hf (aR hf).2.1 rfl
theorem gH.inter(N:gH hold D)(S:San D)(x:Int):gH hold (D.inter x):=by
 unfold Wd.inter
 split
 ·rename_i h;exact N.bury S h
 ·exact N
structure ug (hold:Nat→Nat) (x:Int) (D:Wd):Prop where
 cnt:∀t,t∈D.live→t.mr.refs=((hold t.h+sumL (nmT ((t.h:Int)+1)) D.ts+(if(t.h:Int)+1=x then 1 else 0):Nat):Int)
 good:∀t,t∈D.live→∀i,i<t.pt.length→nth t.pt i=0∨∃u,u∈D.live∧(u.h:Int)+1=nth t.pt i
 gJ:∀t,t∈D.live→t.mr.dead=true→t.mr.refs=0
 there:x=0∨∃u,u∈D.live∧(u.h:Int)+1=x
theorem ug.mark{x:Int}(N:ug hold x D)(S:San D)(r:Int){f:df→df}(h1:∀m,(f m).refs=m.refs)(h2:∀m,(f m).dead=m.dead):ug hold x (D.mark r f):=by
 have hsum:∀y,sumL (nmT y) (D.mark r f).ts=sumL (nmT y) D.ts:=fun y=>eQ r (fun t=>rfl)
 refine⟨fun s hs=> ?_,fun s hs i hi=> ?_,fun s hs hd=> ?_,?_⟩
 ·rw[hsum]
  obtain⟨u,hu,rfl|rfl⟩:=oN S hs
  ·exact N.cnt s hu
  ·show(f u.mr).refs=_;rw[h1];exact N.cnt u hu
 ·have:∃u,u∈D.live∧s.pt=u.pt:=by
   obtain⟨u,hu,rfl|rfl⟩:=oN S hs
   ·exact⟨s,hu,rfl⟩
   ·exact⟨u,hu,rfl⟩
  obtain⟨u,hu,e⟩:=this
  rw[e] at hi ⊢
  rcases N.good u hu i hi with h|⟨v,hv,h⟩
  ·exact .inl h
  ·obtain⟨v',k1,k2⟩:=aM (bJ r f) hv
   exact .inr ⟨v',k1,by rw[k2];exact h⟩
 ·obtain⟨u,hu,rfl|rfl⟩:=oN S hs
  ·exact N.gJ s hu hd
  ·show(f u.mr).refs=0
   rw[h1]
   exact N.gJ u hu (by rw[←h2];exact hd)
 ·rcases N.there with h|⟨u,hu,h⟩
  ·exact .inl h
  ·obtain⟨v',k1,k2⟩:=aM (bJ r f) hu
   exact .inr ⟨v',k1,by rw[k2];exact h⟩
theorem gH.clear(N:gH hold D)(S:San D)(hf:D.find r=some t){i:Nat}(hi:i<t.pt.length):ug hold (nth t.pt i) (D.av r i 0):=by
 have htl:=(find_live hf).1
 have hsum:∀y:Int,y≠0→sumL (nmT y) (D.av r i 0).ts+(if nth t.pt i=y then 1 else 0)=sumL (nmT y) D.ts:=fun y hy=>by
  have h1:=sH (φ:=nmT y) hf i 0
  have h2:=ql y 0 t.pt i hi
  rw[if_neg (Ne.symm hy)] at h2
  have h3:nmT y {t with pt:=t.pt.set i 0}=fD y (t.pt.set i 0):=rfl
  have h4:nmT y t=fD y t.pt:=rfl
  omega
 have hheads:(D.av r i 0).live.map Th.h=D.live.map Th.h:=dC (g:=fun t=>{t with pt:=t.pt.set i 0}) hf (aR hf).2.1 rfl
 have hmem:∀s,s∈(D.av r i 0).live→s={t with pt:=t.pt.set i 0}∨(s∈D.live∧s.h≠t.h):=fun s hs=>bD S.nd hf hs
 have hb:∀s,s∈(D.av r i 0).live→∃u,u∈D.live∧s.h=u.h∧s.mr=u.mr:=fun s hs=>by
  rcases hmem s hs with rfl|⟨h,_⟩
  ·exact⟨t,htl,rfl,rfl⟩
  ·exact⟨s,h,rfl,rfl⟩
 refine⟨fun s hs=> ?_,fun s hs j hj=> ?_,fun s hs hd=> ?_,?_⟩
 ·obtain⟨u,hu,e1,e2⟩:=hb s hs
  have h1:=N.cnt u hu
  have h2:=hsum ((u.h:Int)+1) (by omega)
  rw[e1,e2,h1]
  have e:(if nth t.pt i=(u.h:Int)+1 then 1 else 0)=(if(u.h:Int)+1=nth t.pt i then 1 else 0):=by
   by_cases h:nth t.pt i=(u.h:Int)+1
   ·rw[if_pos h,if_pos h.symm]
   ·rw[if_neg h,if_neg (fun x=>h x.symm)]
  rw[e] at h2
  omega
 ·rcases hmem s hs with rfl|⟨h,_⟩
  ·show nth (t.pt.set i 0) j=0∨∃u:Th,u∈(D.av r i 0).live∧(u.h:Int)+1=nth (t.pt.set i 0) j
   by_cases e:i=j
   ·subst e
    rw[aH hi]
    exact .inl rfl
   ·rw[af e]
    rcases N.good t htl j (by simpa using hj) with h|⟨v,hv,h⟩
    ·exact .inl h
    ·obtain⟨v',k1,k2⟩:=aM hheads hv
     exact .inr ⟨v',k1,by rw[k2];exact h⟩
  ·rcases N.good s h j hj with h|⟨v,hv,h⟩
   ·exact .inl h
   ·obtain⟨v',k1,k2⟩:=aM hheads hv
    exact .inr ⟨v',k1,by rw[k2];exact h⟩
 ·obtain⟨u,hu,e1,e2⟩:=hb s hs
  rw[e2] at hd ⊢
  exact N.gJ u hu hd
 ·rcases N.good t htl i hi with h|⟨v,hv,h⟩
  ·exact .inl h
  ·obtain⟨v',k1,k2⟩:=aM hheads hv
   exact .inr ⟨v',k1,by rw[k2];exact h⟩
theorem ug.none(N:ug hold 0 D):gH hold D:=⟨fun t ht=>by have:=N.cnt t ht;rw[if_neg (by omega)] at this;simpa using this,N.good,N.gJ⟩
theorem ug.down{x:Int}(N:ug hold x D)(S:San D):gH hold (D.down x):=by
 have hsum:∀y,sumL (nmT y) (D.down x).ts=sumL (nmT y) D.ts:=fun y=>eQ x (fun t=>rfl)
 have hh:=bJ (D:=D) x (fun m=>{m with refs:=m.refs-1})
 cases hf:D.find x with
 |none=>
  have e:D.down x=D:=dL _ hf
  rw[e]
  refine⟨fun t ht=> ?_,N.good,N.gJ⟩
  have:=N.cnt t ht
  rw[if_neg (fun h=>by have:=S.bE ht;rw[h,hf] at this;cases this)] at this
  simpa using this
 |some t=>
  obtain⟨htl,hr⟩:=find_live hf
  have hmem:∀s,s∈(D.down x).live→s={t with mr:={t.mr with refs:=t.mr.refs-1}}∨(s∈D.live∧s.h≠t.h):=fun s hs=>bD (g:=fun t=>{t with mr:={t.mr with refs:=t.mr.refs-1}}) S.nd hf hs
  refine⟨fun s hs=> ?_,fun s hs i hi=> ?_,fun s hs hd=> ?_⟩
  ·rw[hsum]
   rcases hmem s hs with rfl|⟨h,hne⟩
   ·have:=N.cnt t htl
    rw[if_pos hr] at this
    show t.mr.refs-1=((hold t.h+sumL (nmT ((t.h:Int)+1)) D.ts:Nat):Int)
    omega
   ·have:=N.cnt s h
    rw[if_neg (by omega)] at this
    simpa using this
  ·have:∃u,u∈D.live∧s.pt=u.pt:=by
    rcases hmem s hs with rfl|⟨h,_⟩
    ·exact⟨t,htl,rfl⟩
    ·exact⟨s,h,rfl⟩
   obtain⟨u,hu,e⟩:=this
   rw[e] at hi ⊢
   rcases N.good u hu i hi with h|⟨v,hv,h⟩
   ·exact .inl h
   ·obtain⟨v',k1,k2⟩:=aM hh hv
    exact .inr ⟨v',k1,by rw[k2];exact h⟩
  ·rcases hmem s hs with rfl|⟨h,hne⟩
   ·exfalso
    have h0:=N.gJ t htl hd
    have:=N.cnt t htl
    rw[if_pos hr] at this
    omega
   ·exact N.gJ s h hd
theorem gH.drain(N:gH hold D)(S:San D)(hf:D.find r=some t){i:Nat}(hi:i<t.pt.length):gH hold (D.drain r i (nth t.pt i)):=by
 have N1:=N.clear S hf hi
 have S1:=S.av hf i (x:=0) (fun _=>rfl)
 generalize nth t.pt i=x at N1
 unfold Wd.drain
 by_cases hc:(D.av r i 0).cnt x=0
 ·rw[if_pos hc]
  rcases N1.there with rfl|⟨u,hu,e⟩
  ·exact N1.none
  ·exfalso
   have h1:=N1.cnt u hu
   rw[if_pos e] at h1
   unfold Wd.cnt at hc
   rw[←e,S1.bE hu] at hc
   simp only at hc
   omega
 ·rw[if_neg hc]
  have key:∀D2:Wd,San D2→ug hold x D2→gH hold (if(D2.down x).cnt x=0 then(D2.down x).bury x else D2.down x):=fun D2 S2 N2=>by
   split
   ·rename_i h;exact(N2.down S2).bury (S2.down x) h
   ·exact N2.down S2
  have K:San (if(D.av r i 0).counted r i then(D.av r i 0).ay x else D.av r i 0)∧ug hold x (if(D.av r i 0).counted r i then(D.av r i 0).ay x else D.av r i 0):=by
   split
   ·refine⟨S1.ay x,?_⟩
    unfold Wd.ay
    split
    ·exact N1.mark S1 x (fun _=>rfl) (fun _=>rfl)
    ·exact N1
   ·exact⟨S1,N1⟩
  exact key _ K.1 K.2
theorem gH.step(N:gH hold D)(S:San D):gH hold D.step:=by
 cases hg:D.grave with
 |nil=>unfold Wd.step;rw[hg];exact N
 |cons q rest=>
  obtain⟨t,htl,e,hf,hd,d,es⟩:=S.head hg
  have hw:=S.w
  rw[es]
  unfold Wd.work
  by_cases ha:D.ahead t.mr.leaves<t.mr.left
  ·have h0:0≤D.ahead t.mr.leaves:=by
    unfold Wd.ahead
    refine Int.mul_nonneg ?_ (by omega)
    split<;>omega
   rw[if_pos ha]
   have hi:(t.mr.left-1).toNat<t.pt.length:=by have:=d.f1;omega
   exact(N.drain S hf hi).mark (S.drain hf _ _) _ (fun _=>rfl) (fun _=>rfl)
  ·rw[if_neg ha]
   by_cases hl:0<t.mr.leaves
   ·rw[if_pos hl]
    refine N.of (fun s hs=> ?_) ?_ (fun y=> ?_)
    ·unfold Wd.live at hs
     have hs':s∈aL ((D.fZ (q:Int) (t.mr.leaves-1).toNat (nth t.lv (t.mr.leaves-1).toNat).toNat).mark (q:Int) (fun m=>{m with leaves:=t.mr.leaves-1})).ts:=hs
     rw[jk] at hs'
     rcases bD (g:=fun s=>{s with lv:=s.lv.set (t.mr.leaves-1).toNat (-1),mr:={s.mr with leaves:=t.mr.leaves-1}}) S.nd hf hs' with rfl|⟨h,_⟩
     ·exact⟨t,htl,rfl,rfl,rfl,fun _=>.inl hd⟩
     ·exact⟨s,h,rfl,rfl,rfl,fun h=>.inl h⟩
    ·show(aL ((D.fZ (q:Int) (t.mr.leaves-1).toNat (nth t.lv (t.mr.leaves-1).toNat).toNat).mark (q:Int) (fun m=>{m with leaves:=t.mr.leaves-1})).ts).map Th.h=_
     rw[jk]
     exact dC (g:=fun s=>{s with lv:=s.lv.set (t.mr.leaves-1).toNat (-1),mr:={s.mr with leaves:=t.mr.leaves-1}}) hf (aR hf).2.1 rfl
    ·show sumL (nmT y) ((D.fZ (q:Int) (t.mr.leaves-1).toNat (nth t.lv (t.mr.leaves-1).toNat).toNat).mark (q:Int) (fun m=>{m with leaves:=t.mr.leaves-1})).ts=_
     rw[jk]
     have h2:=gU (φ:=nmT y) (g:=fun s=>{s with lv:=s.lv.set (t.mr.leaves-1).toNat (-1),mr:={s.mr with leaves:=t.mr.leaves-1}}) hf (aR hf).2.1
     have h3:nmT y {t with lv:=t.lv.set (t.mr.leaves-1).toNat (-1),mr:={t.mr with leaves:=t.mr.leaves-1}}=nmT y t:=rfl
     have h2:_+nmT y t=_+nmT y {t with lv:=t.lv.set (t.mr.leaves-1).toNat (-1),mr:={t.mr with leaves:=t.mr.leaves-1}}:=h2
     omega
   ·rw[if_neg hl]
    have hl0:t.mr.leaves=0:=by have:=d.l0;omega
    have hleft:t.mr.left=0:=by rw[hl0,ahead_zero] at ha;have:=d.f0;omega
    have hz:∀i,nth t.pt i=0:=fun i=>d.zero i (by omega)
    have hlive:(({D with grave:=rest}:Wd).iw (q:Int) t.h).live=D.live.filter (fun s=>s.h !=t.h):=dU (g:=fun s=>{s with ended:=true}) (fun _=>rfl) S.nd hf
    have hmem:∀s,s∈D.live.filter (fun s=>s.h !=t.h)→s∈D.live∧s.h≠t.h:=fun s hs=>by
     have:=List.mem_filter.1 hs
     exact⟨this.1,by simpa using this.2⟩
    have hsum:∀y:Int,y≠0→sumL (nmT y) (updL (q:Int) (fun s=>{s with ended:=true}) D.ts)=sumL (nmT y) D.ts:=fun y hy=>by
     have:=qW (φ:=nmT y) (g:=fun s=>{s with ended:=true}) hf rfl
     have h0:nmT y t=0:=rJ hy hz
     omega
    have hnone:∀s,s∈D.live→∀i,i<s.pt.length→nth s.pt i≠(t.h:Int)+1:=fun s hs i hi e2=>by
     have h1:=N.cnt t htl
     rw[N.gJ t htl hd] at h1
     have h2:=vY (φ:=nmT ((t.h:Int)+1)) hs
     have h3:1≤nmT ((t.h:Int)+1) s:=Ar hi e2
     have h4:nmT ((t.h:Int)+1) s≤sumL (nmT ((t.h:Int)+1)) D.ts:=h2
     omega
    show gH hold {({D with grave:=rest}:Wd).iw (q:Int) t.h with pending:=D.pending-1}
    refine⟨fun s hs=> ?_,fun s hs i hi=> ?_,fun s hs hds=> ?_⟩
    ·have hs':s∈(({D with grave:=rest}:Wd).iw (q:Int) t.h).live:=hs
     rw[hlive] at hs'
     have:=N.cnt s (hmem s hs').1
     rw[this]
     show _=((hold s.h+sumL (nmT ((s.h:Int)+1)) (updL (q:Int) (fun s=>{s with ended:=true}) D.ts):Nat):Int)
     rw[hsum _ (by omega)]
    ·have hs':s∈(({D with grave:=rest}:Wd).iw (q:Int) t.h).live:=hs
     rw[hlive] at hs'
     have h1:=(hmem s hs').1
     rcases N.good s h1 i hi with h|⟨v,hv,h⟩
     ·exact .inl h
     ·refine .inr ⟨v,?_,h⟩
      show v∈(({D with grave:=rest}:Wd).iw (q:Int) t.h).live
      rw[hlive]
      refine List.mem_filter.2 ⟨hv,?_⟩
      have:v.h≠t.h:=fun ex=>hnone s h1 i hi (by rw[←h,ex])
      simpa using this
    ·have hs':s∈(({D with grave:=rest}:Wd).iw (q:Int) t.h).live:=hs
     rw[hlive] at hs'
     exact N.gJ s (hmem s hs').1 hds
end
theorem San.new(n:Nat){w:Nat}(h:16≤w):San (Wd.new n w):=⟨h,by simp[Wd.live,Wd.new,aL],by simp[Wd.new],fun g hg=>absurd hg (by simp[Wd.new]),fun t ht=>absurd ht (by simp[Wd.live,Wd.new,aL]),fun t ht=>absurd ht (by simp[Wd.live,Wd.new,aL]),rfl⟩
theorem kV{φ:Th→Nat}:∀(l k:List Th),sumL φ (l++k)=sumL φ l+sumL φ k
 |[],k=>by simp[sumL,aL]
 |u::l,k=>by rw[List.cons_append,aZ,aZ,kV l k];omega
theorem az.geo{c:Cf}{zs:List Int}{D:Wd}{t:Th}(R:az c zs D)(hm:c.May)(ht:t∈D.live):Geo D.w t:=by
 have hA:=R.heap.bH t.ob (R.bF ht)
 have hw:=hm.w
 have hW:=R.w
 have ef:t.ob.f=t.pt.length+t.dt.length:=rfl
 have el:t.ob.lv.length=t.lv.length:=by unfold Th.ob;simp
 refine⟨fun h=> ?_,fun h=> ?_⟩
 ·have:=hA.small (by rw[ef];rw[hW] at h;exact h) hm
  have h2:t.lv.length=0:=by rw[←el,this];rfl
  exact List.length_eq_zero_iff.1 h2
 ·have hb:¬t.ob.f≤c.W-8:=by rw[ef];rw[hW] at h;exact h
  have hl:=hA.lvs
  obtain⟨_,_,h3,_⟩:=mF (W:=c.W) (n:=t.ob.f) (by omega) (by omega) (by omega) hA.size
  rw[←hl] at h3
  have h4:t.ob.f≤t.ob.lv.length*(c.W-1):=by
   have:((t.ob.lv.length*(c.W-1):Nat):Int)=(t.ob.lv.length:Int)*((c.W:Int)-1):=by rw[Int.natCast_mul];congr 1;omega
   omega
  rw[el,ef] at h4
  refine⟨fun e=> ?_,by rw[hW];exact h4⟩
  have h5:t.lv.length=0:=by rw[e];rfl
  rw[h5,Nat.zero_mul] at h4
  omega
theorem San.made{c:Cf}{zs:List Int}{D:Wd}{b np nd:Nat}{ls cl:List Nat}(S:San D)(R:az c zs (D.made b ls cl np nd))(hm:c.May):San (D.made b ls cl np nd):=by
 have hlive:=dx (D:=D) (b:=b) (ls:=ls) (cl:=cl) (np:=np) (nd:=nd)
 have hg:(D.made b ls cl np nd).grave=D.grave:=rfl
 have hmem:∀t,t∈D.live→t∈(D.made b ls cl np nd).live:=fun t ht=>by rw[hlive];exact List.mem_append_left _ ht
 have hnew:(⟨b,ints ls,gJ np,gJ nd,false,df.new⟩:Th)∈(D.made b ls cl np nd).live:=by rw[hlive];simp
 refine⟨S.w,R.nodup,S.gd,fun g hg=> ?_,fun t ht=> ?_,fun t ht hr=> ?_,?_⟩
 ·obtain⟨u,hu,e⟩:=S.gv g hg
  exact⟨u,hmem u hu,e⟩
 ·have hgeo:=R.geo hm ht
  rw[hlive] at ht
  rcases List.mem_append.1 ht with h|h
  ·have k:=S.ok t h
   exact⟨hgeo,k.iff_,k.dead,k.alive⟩
  ·obtain rfl:=List.mem_singleton.1 h
   refine⟨hgeo,⟨fun h=>(by cases h),fun h=> ?_⟩,fun h=>(by cases h),fun _ j hj=> ?_⟩
   ·have:=(R.bur _ hnew h).1
    exact this
   ·have hj':j<ls.length:=by simpa[ints] using hj
    exact⟨ls[j],by show(ints ls)[j]? =_;unfold ints;simp[hj']⟩
 ·rw[hlive] at ht
  rcases List.mem_append.1 ht with h|h
  ·exact S.ring t h hr
  ·obtain rfl:=List.mem_singleton.1 h
   rfl
 ·have h1:=S.pend
  have h2:sumL bW (D.ts++[(⟨b,ints ls,gJ np,gJ nd,false,df.new⟩:Th)])=sumL bW D.ts:=by
   rw[kV,aZ]
   simp[bW,df.new,sumL,aL]
  show D.pending=(sumL bW (D.ts++[_]):Int)
  rw[h1,h2]
theorem San.gI{c:Cf}{D:Wd}{x y:Int}(S:San D){w wr:World}{p:Pl}(h:RSt w p c (D.gI x y) wr):San (D.gI x y):=by
 obtain⟨zs,m,hG,hR,hp,hB⟩:=h
 unfold Wd.gI at hR ⊢
 split
 ·rename_i h0
  rw[if_pos h0] at hR
  exact S.made hR hG.may
 ·exact S
section
variable {D D':Wd} {r x:Int} {t s u:Th} {g:Th→Th} {f:df→df} {hold:Nat→Nat} {φ:Th→Nat} {c:Cf} {zs:List Int}
theorem oZ(hg:∀t,(g t).h=t.h)(r:Int):∀l:List Th,(updL r g l).map Th.h=l.map Th.h
 |[]=>rfl
 |u::l=>by
  unfold updL
  split
  ·simp[hg]
  ·simp[oZ hg r l]
theorem fG(r:Int)(f:df→df):(D.mark r f).ts.map Th.h=D.ts.map Th.h:=oZ (g:=fun t=>{t with mr:=f t.mr}) (fun _=>rfl) r D.ts
theorem qO(r:Int)(i:Nat)(x:Int):(D.av r i x).ts.map Th.h=D.ts.map Th.h:=oZ (g:=fun t=>{t with pt:=t.pt.set i x}) (fun _=>rfl) r D.ts
theorem Er(x:Int):(D.bury x).ts.map Th.h=D.ts.map Th.h:=by
 unfold Wd.bury
 cases D.find x with
 |none=>rfl
 |some t=>
  simp only
  split
  ·rfl
  ·rw[lay_ts]
   exact oZ (g:=fun s=>{s with mr:={s.mr with dead:=true,left:=(t.pt.length:Int),leaves:=(t.lv.length:Int)}}) (fun _=>rfl) x D.ts
theorem inter_hd(x:Int):(D.inter x).ts.map Th.h=D.ts.map Th.h:=by
 unfold Wd.inter
 split
 ·exact Er x
 ·rfl
theorem Dm(x:Int):(D.ay x).ts.map Th.h=D.ts.map Th.h:=by
 unfold Wd.ay
 split
 ·exact fG x _
 ·rfl
theorem Iu(r:Int)(i:Nat)(x:Int):(D.drain r i x).ts.map Th.h=D.ts.map Th.h:=by
 have key:∀D2:Wd,D2.ts.map Th.h=D.ts.map Th.h→(if(D2.down x).cnt x=0 then(D2.down x).bury x else D2.down x).ts.map Th.h=D.ts.map Th.h:=fun D2 h=>by
  split
  ·rw[Er];exact(fG x _).trans h
  ·exact(fG x _).trans h
 unfold Wd.drain
 by_cases hc:(D.av r i 0).cnt x=0
 ·rw[if_pos hc];exact qO r i 0
 ·rw[if_neg hc]
  refine key _ ?_
  split
  ·rw[Dm];exact qO r i 0
  ·exact qO r i 0
theorem zD:D.step.ts.map Th.h=D.ts.map Th.h:=by
 unfold Wd.step
 split
 ·rfl
 ·split
  ·rfl
  ·rename_i _ q rest _ _ t _
   unfold Wd.work
   split
   ·exact(fG _ _).trans (Iu _ _ _)
   ·split
    ·show((D.fZ (q:Int) (t.mr.leaves-1).toNat (nth t.lv (t.mr.leaves-1).toNat).toNat).mark (q:Int) (fun m=>{m with leaves:=t.mr.leaves-1})).ts.map Th.h=_
     rw[fG]
     exact oZ (g:=fun s=>{s with lv:=s.lv.set (t.mr.leaves-1).toNat (-1)}) (fun _=>rfl) _ D.ts
    ·exact oZ (g:=fun s=>{s with ended:=true}) (fun _=>rfl) _ D.ts
theorem qo{h:Nat}:∀{l:List Th},(∀u,u∈l→u.h≠h)→findL ((h:Int)+1) l=none
 |[],_=>rfl
 |u::l,hn=>by
  unfold findL
  have h1:u.at ((h:Int)+1)=false:=by
   have:=hn u (by simp)
   unfold Th.at
   simp
   intro _ e
   omega
  rw[h1]
  exact qo (fun v hv=>hn v (List.mem_cons_of_mem _ hv))
theorem find_ts:∀{l:List Th},(l.map Th.h).Nodup→t∈l→findL ((t.h:Int)+1) l=if t.ended then none else some t
 |[],_,h=>by simp at h
 |u::l,hn,h=>by
  rw[List.map_cons,List.nodup_cons] at hn
  have hne:∀v,v∈l→v.h≠u.h:=fun v hv e=>hn.1 (e▸List.mem_map.2 ⟨v,hv,rfl⟩)
  rcases List.mem_cons.1 h with rfl|h
  ·unfold findL
   cases he:t.ended with
   |true=>
    have:t.at ((t.h:Int)+1)=false:=by unfold Th.at;simp[he]
    rw[this]
    simpa using qo hne
   |false=>
    have:t.at ((t.h:Int)+1)=true:=by unfold Th.at;simp[he]
    rw[this]
    simp
  ·have hut:=hne t h
   have:u.at ((t.h:Int)+1)=false:=by unfold Th.at;simp;intro _ e;omega
   unfold findL
   rw[this]
   exact find_ts hn.2 h
def atD(φ:Th→Nat)(D:Wd)(r:Int):Nat:=match D.find r with|none=>0|some t=>φ t
def Wd.allR(D:Wd):List Int:=D.ts.map (fun t=>(t.h:Int)+1)
theorem refs_hd(h:D'.ts.map Th.h=D.ts.map Th.h):D'.allR=D.allR:=by
 have e:∀E:Wd,E.allR=(E.ts.map Th.h).map (fun h:Nat=>(h:Int)+1):=fun E=>by unfold Wd.allR;rw[List.map_map];rfl
 rw[e,e,h]
theorem Fg:∀l:List Th,sumL φ l=(l.map (fun t=>if t.ended then 0 else φ t)).sum
 |[]=>rfl
 |u::l=>by rw[aZ,Fg l];simp
def sumK(f:Int→Nat)(l:List Int)(k:Nat):Nat:=((l.take k).map f).sum
theorem JE(hn:(D.ts.map Th.h).Nodup)(φ:Th→Nat):sumK (atD φ D) D.allR D.allR.length=sumL φ D.ts:=by
 unfold sumK
 rw[List.take_length,Fg]
 unfold Wd.allR
 rw[List.map_map]
 congr 1
 refine List.map_congr_left (fun t ht=> ?_)
 show atD φ D ((t.h:Int)+1)=_
 unfold atD
 rw[show D.find ((t.h:Int)+1)=if t.ended then none else some t from find_ts hn ht]
 cases t.ended<;>rfl
theorem rG{y:Int}:∀{l:List Int},(∀i,i<l.length→nth l i≠y)→fD y l=0
 |[],_=>rfl
 |a::l,h=>by
  have h0:a≠y:=h 0 (by simp)
  unfold fD
  rw[if_neg h0,rG (fun i hi=>h (i+1) (by simpa using hi))]
theorem sumL_none:∀{l:List Th},(∀t,t∈aL l→φ t=0)→sumL φ l=0
 |[],_=>rfl
 |u::l,h=>by
  rw[aZ,sumL_none (fun t ht=>h t (by rw[aA];split;exact ht;exact List.mem_cons_of_mem _ ht))]
  cases hu:u.ended with
  |true=>simp
  |false=>simp;exact h u (by rw[aA,hu];simp)
theorem uw(n i:Nat):nth (gJ n) i=0:=by
 unfold nth gJ
 rw[List.getD_eq_getElem?_getD]
 by_cases h:i<n
 ·simp[h]
 ·simp[h]
theorem Bo{b np nd:Nat}{ls cl:List Nat}{y:Int}(hy:y≠0):sumL (nmT y) (D.made b ls cl np nd).ts=sumL (nmT y) D.ts:=by
 show sumL (nmT y) (D.ts++[(⟨b,ints ls,gJ np,gJ nd,false,df.new⟩:Th)])=_
 rw[kV,aZ]
 have:nmT y (⟨b,ints ls,gJ np,gJ nd,false,df.new⟩:Th)=0:=rJ hy (fun i=>uw np i)
 rw[this]
 simp[sumL,aL]
theorem gH.made{b np nd:Nat}{ls cl:List Nat}(N:gH hold D)(hh:hold b=0)(hn:∀t,t∈D.live→t.h≠b):gH hold (D.made b ls cl np nd):=by
 have hmem:∀t,t∈D.live→t∈(D.made b ls cl np nd).live:=fun t ht=>by rw[dx];exact List.mem_append_left _ ht
 refine⟨fun s hs=> ?_,fun s hs i hi=> ?_,fun s hs hd=> ?_⟩
 ·rw[Bo (by omega)]
  rw[dx] at hs
  rcases List.mem_append.1 hs with h|h
  ·exact N.cnt s h
  ·obtain rfl:=List.mem_singleton.1 h
   show(0:Int)=((hold b+sumL (nmT ((b:Int)+1)) D.ts:Nat):Int)
   have h0:sumL (nmT ((b:Int)+1)) D.ts=0:=sumL_none (fun t ht=>rG (fun i hi e=>by
    rcases N.good t ht i hi with h|⟨u,hu,h⟩
    ·omega
    ·exact hn u hu (by omega)))
   rw[hh,h0]
   rfl
 ·rw[dx] at hs
  rcases List.mem_append.1 hs with h|h
  ·rcases N.good s h i hi with h|⟨u,hu,h⟩
   ·exact .inl h
   ·exact .inr ⟨u,hmem u hu,h⟩
  ·obtain rfl:=List.mem_singleton.1 h
   exact .inl (uw np i)
 ·rw[dx] at hs
  rcases List.mem_append.1 hs with h|h
  ·exact N.gJ s h hd
  ·obtain rfl:=List.mem_singleton.1 h
   rfl
theorem qA:∀{l:List Th},(∀t,t∈l→t.ended=false)→aL l=l
 |[],_=>rfl
 |u::l,h=>by rw[aA,h u (by simp),if_neg (by simp),qA (fun t ht=>h t (List.mem_cons_of_mem _ ht))]
structure Gro (N:Nat) (D:Wd) (k:Nat):Prop where
 san:San D
 nam:gH (fun _=>0) D
 bd:∀y:Int,y≠0→sumL (nmT y) D.ts≤k
 gr:D.grave=[]
 nd:(D.ts.map Th.h).Nodup
 all:∀t,t∈D.ts→t.ended=false
 lt:∀t,t∈D.ts→t.h<N
theorem Gro.new(n:Nat){w:Nat}(h:16≤w):Gro n (Wd.new n w) 0:=⟨San.new n h,⟨fun t ht=>absurd ht (by simp[Wd.live,Wd.new,aL]),fun t ht=>absurd ht (by simp[Wd.live,Wd.new,aL]),fun t ht=>absurd ht (by simp[Wd.live,Wd.new,aL])⟩,fun y _=>by simp[Wd.new,sumL,aL],rfl,by simp[Wd.new],fun t ht=>absurd ht (by simp[Wd.new]),fun t ht=>absurd ht (by simp[Wd.new])⟩
theorem Gro.alive{N k:Nat}(G:Gro N D k)(ht:t∈D.live):t.mr.dead=false:=by
 cases h:t.mr.dead with
 |false=>rfl
 |true=>have:=(G.san.ok t ht).iff_.1 h;rw[G.gr] at this;simp at this
theorem Gro.made{b np nd k:Nat}{ls cl:List Nat}(G:Gro c.N D k)(R:az c zs (D.made b ls cl np nd))(hm:c.May):Gro c.N (D.made b ls cl np nd) k:=by
 have hts:(D.made b ls cl np nd).ts=D.ts++[⟨b,ints ls,gJ np,gJ nd,false,df.new⟩]:=rfl
 have hall:∀t,t∈(D.made b ls cl np nd).ts→t.ended=false:=fun t ht=>by
  rw[hts] at ht
  rcases List.mem_append.1 ht with h|h
  ·exact G.all t h
  ·obtain rfl:=List.mem_singleton.1 h;rfl
 have hl:(D.made b ls cl np nd).live=(D.made b ls cl np nd).ts:=qA hall
 have hl0:D.live=D.ts:=qA G.all
 have hnd:((D.made b ls cl np nd).ts.map Th.h).Nodup:=by rw[←hl];exact R.nodup
 refine⟨G.san.made R hm,G.nam.made rfl (fun t ht e=> ?_),fun y hy=>by rw[Bo hy];exact G.bd y hy,G.gr,hnd,hall,fun t ht=>R.hlt (by rw[hl];exact ht)⟩
 rw[hts,List.map_append,List.nodup_append] at hnd
 exact hnd.2.2 t.h (List.mem_map.2 ⟨t,by rw[←hl0];exact ht,rfl⟩) b (by simp) e
theorem Gro.upd{N k k2:Nat}(G:Gro N D k)(S:San D')(Nm:gH (fun _=>0) D')(hb:∀y:Int,y≠0→sumL (nmT y) D'.ts≤k2)(hgr:D'.grave=[])(hhd:D'.ts.map Th.h=D.ts.map Th.h)(hall:∀t,t∈D'.ts→t.ended=false):Gro N D' k2:=
 ⟨S,Nm,hb,hgr,by rw[hhd];exact G.nd,hall,fun t ht=>by
  have:t.h∈D.ts.map Th.h:=by rw[←hhd];exact List.mem_map.2 ⟨t,ht,rfl⟩
  obtain⟨u,hu,e⟩:=List.mem_map.1 this
  rw[←e]
  exact G.lt u hu⟩
theorem CE(hg:∀t,(g t).ended=t.ended)(r:Int):∀{l:List Th},(∀t,t∈l→t.ended=false)→∀t,t∈updL r g l→t.ended=false
 |[],_,t,ht=>by simp[updL] at ht
 |u::l,h,t,ht=>by
  unfold updL at ht
  split at ht
  ·rcases List.mem_cons.1 ht with rfl|ht
   ·rw[hg];exact h u (by simp)
   ·exact h t (List.mem_cons_of_mem _ ht)
  ·rcases List.mem_cons.1 ht with rfl|ht
   ·exact h t (by simp)
   ·exact CE hg r (fun s hs=>h s (List.mem_cons_of_mem _ hs)) t ht
theorem Gro.pQ{N k:Nat}(G:Gro N D k)(r:Int):Gro N (D.pQ r) k:=
 G.upd (G.san.mark r (fun _=>rfl) (fun _=>rfl) (fun _=>rfl)) (G.nam.mark G.san r (fun _=>rfl) (fun _=>rfl)) (fun y hy=>by
  have:sumL (nmT y) (D.pQ r).ts=sumL (nmT y) D.ts:=eQ r (fun t=>rfl)
  rw[this];exact G.bd y hy) G.gr (fG r _) (CE (g:=fun t=>{t with mr:={t.mr with color:=D.parity,count:=D.parity,shade:=D.parity,shadow:=0}}) (fun _=>rfl) r G.all)
theorem Gro.more{N k k2:Nat}(G:Gro N D k)(h:k≤k2):Gro N D k2:=⟨G.san,G.nam,fun y hy=>Nat.le_trans (G.bd y hy) h,G.gr,G.nd,G.all,G.lt⟩
theorem Gro.at{N k:Nat}(G:Gro N D k){j:Nat}(hj:j<D.allR.length):∃t,t∈D.live∧nth D.allR j=(t.h:Int)+1∧D.find (nth D.allR j)=some t:=by
 have hl:j<D.ts.length:=by unfold Wd.allR at hj;simpa using hj
 have e:nth D.allR j=(D.ts[j].h:Int)+1:=by
  unfold nth Wd.allR
  rw[List.getD_eq_getElem?_getD]
  simp[hl]
 have hm:D.ts[j]∈D.live:=by unfold Wd.live;rw[qA G.all];exact List.getElem_mem hl
 refine⟨D.ts[j],hm,e,?_⟩
 rw[e]
 exact G.san.bE hm
end
section
variable {c:Cf} {D:Wd} {t u:Th} {r x:Int} {w wr:World} {p:Pl} {zs:List Int}
theorem OT.field{v:Nat}(hm:c.May)(hw:c.W=v)(a:OT t)(g:Geo v t){i:Nat}(hi:i<t.pt.length):∃q,aQ c t.ob i=some q:=by
 have hW:=hm.w
 have ef:t.ob.f=t.pt.length+t.dt.length:=rfl
 by_cases hs:t.ob.f≤c.W-8
 ·exact⟨_,by unfold aQ;rw[jH hs];rfl⟩
 ·obtain⟨_,h2⟩:=g.big (by rw[←hw];omega)
  have hq:i/(c.W-1)<t.lv.length:=by
   rw[Nat.div_lt_iff_lt_mul (by omega)]
   rw[←hw] at h2
   omega
  obtain⟨b,hb⟩:=a (i/(c.W-1)) hq
  exact⟨_,by unfold aQ;rw[jZ hs (EL hb)];rfl⟩
theorem jA(hm:c.May)(R:az c zs D)(hf:D.find r=some t):In64 r:=by
 obtain⟨htl,e⟩:=find_live hf
 rw[←e]
 exact R.heap.in64 hm (R.bF htl)
theorem IJ(S:San D)(hf:D.find r=some t)(hd:t.mr.dead=false)(i:Nat):Does c D 94 [.int .i64 r,.int .i64 (i:Int)] 12 D (.tuple #[.int .i64 (nth t.pt i),.int .i64 (if i<t.pt.length then 0 else 7)]):=fun zs hz R=>by
 obtain⟨htl,e⟩:=find_live hf
 have hr:=jA hz.may R hf
 by_cases hi:i<t.pt.length
 ·obtain⟨a,ha⟩:=((S.ok t htl).alive hd).field hz.may R.w.symm (S.ok t htl).geo hi
  obtain⟨⟨d,hd,C⟩,_,_⟩:=uA hz R hr hf hi ha
  rw[if_pos hi]
  exact⟨zs,⟨d,hd,C⟩,R⟩
 ·have h:=mJ.ptr c zs D.clean D.bH r i hz R.heap hr
  have hob:=iB R r
  rw[hf] at hob
  have hob:eX D.bH r=some t.ob:=hob
  have hb:jP (i:Int) t.ob.np=false:=by
   unfold jP
   have:t.ob.np=t.pt.length:=rfl
   simp
   omega
  have e1:pq c zs D.bH r (i:Int)=nth t.pt i:=by
   unfold pq
   rw[hob]
   simp only[hb]
   rw[bS (by omega)]
   rfl
  have e2:pg c D.bH r (i:Int)=7:=by
   unfold pg
   rw[hob]
   simp[hb]
  rw[e1,e2] at h
  rw[if_neg hi]
  exact⟨zs,h,R⟩
theorem Od(hf:D.find r=some t)(hb:t.mr.refs<4294967295):Does c D 96 [.int .i64 r] 8 (D.up r) (.tuple #[.int .i64 (t.mr.refs+1),.bool true]):=fun zs hz R=>by
 obtain⟨htl,rfl⟩:=find_live hf
 have e3:nth zs (ae c t.ob.h 3)=t.mr.refs:=(R.own t htl).w3
 have h:=Ij.up_yes c zs D.clean D.bH t.ob hz R.heap (R.bF htl) (by rw[e3];exact hb)
 rw[e3] at h
 exact⟨_,h,R.jC hz.may hz.len hf (v:=3) (.inl rfl) (x:=t.mr.refs+1) (f:=fun m=>{m with refs:=m.refs+1}) rfl⟩
theorem Ey(hr:In64 r):Does c D 34 [.int .i64 r] 12 D (.bool (D.find r).isSome):=fun zs hz R=>by
 have h:=mJ.is_ c zs D.clean D.bH r hz R.heap hr
 rw[iB R r,Option.isSome_map] at h
 exact⟨zs,h,R⟩
theorem IE(hr:In64 r):Does c D 37 [.int .i64 r] 2 D (.int .i64 (D.cnt r)):=fun zs hz R=>by
 obtain⟨d,hd,C⟩:=II hz R hr
 exact⟨zs,⟨d,hd,C⟩,R⟩
theorem RSt.pendBd(h:RSt w p c D wr)(S:San D):0≤D.pending∧D.pending≤4294900000:=by
 obtain⟨zs,m,hG,hR,_⟩:=h
 have:=S.pendBd hR hG.may
 omega
theorem RSt.total(h:RSt w p c D wr)(S:San D):D.clean.length+sumL occT D.ts=c.N:=by
 obtain⟨zs,m,hG,hR,_⟩:=h
 exact S.total hR
end
section
variable {c:Cf} {zs zs1 zs2 zs3 zs4 zs5 zs6 zs7 zs8:List Int} {d1 d2 d3 d4 d5 d6 d7 d8:Nat}
set_option maxHeartbeats 1000000 in
theorem zS{r f n n2:Int}(hn:¬f<n)(C1:Run c 148 [.int .i64 r] zs d1 zs1 (.tuple #[.int .i64 n,.int .i64 n2,.int .i64 0])):Run c 91 [.int .i64 r,.int .i64 f] zs (d1) zs1 (.bool false):=fun p m w hG=>by
 have hle:n≤f:=by omega
 have hnf:¬f<n:=hn
 clear hn
 have HG:=hid hG
 have HC1:=hid C1
 clear hG C1
 go_enter Tryz.func91,Tryz.ntmps91
 have HT0:Hid (Touch (inG p) w w):=hid (Touch.refl _ _)
 go_wp2_with fail
 refine(HC1.out p _ _ HG.out).mono ?_
 rintro e wm1 ⟨rfl,hG,hT⟩
 have HG1:=hid hG
 have HT1:Hid (Touch (inG p) _ wm1):=hid (HT0.out.trans hT)
 clear hG hT
 go_wp2_with fail
 go_ret
 exact⟨rfl,HG1.out,HT1.out⟩
set_option maxHeartbeats 1000000 in
theorem GD{r f n n2 x e:Int}{b:Bool}(hn:f<n)(C1:Run c 148 [.int .i64 r] zs d1 zs1 (.tuple #[.int .i64 n,.int .i64 n2,.int .i64 0]))(C2:Run c 94 [.int .i64 r,.int .i64 f] zs1 d2 zs2 (.tuple #[.int .i64 x,.int .i64 e]))(C3:Run c 62 [.int .i64 x] zs2 d3 zs3 (.bool b)):Run c 91 [.int .i64 r,.int .i64 f] zs (d1+d2+d3) zs3 (.bool true):=fun p m w hG=>by
 have hle:¬n≤f:=by omega
 have hnf:f<n:=hn
 clear hn
 have HG:=hid hG
 have HC1:=hid C1
 have HC2:=hid C2
 have HC3:=hid C3
 clear hG C1 C2 C3
 go_enter Tryz.func91,Tryz.ntmps91
 have HT0:Hid (Touch (inG p) w w):=hid (Touch.refl _ _)
 go_wp2_with fail
 refine(HC1.out p _ _ HG.out).mono ?_
 rintro e wm1 ⟨rfl,hG,hT⟩
 have HG1:=hid hG
 have HT1:Hid (Touch (inG p) _ wm1):=hid (HT0.out.trans hT)
 clear hG hT
 go_wp2_with fail
 refine(HC2.out p _ _ HG1.out).mono ?_
 rintro e wm2 ⟨rfl,hG,hT⟩
 have HG2:=hid hG
 have HT2:Hid (Touch (inG p) _ wm2):=hid (HT1.out.trans hT)
 clear hG hT
 go_wp2_with fail
 refine(HC3.out p _ _ HG2.out).mono ?_
 rintro e wm3 ⟨rfl,hG,hT⟩
 have HG3:=hid hG
 have HT3:Hid (Touch (inG p) _ wm3):=hid (HT2.out.trans hT)
 clear hG hT
 go_wp2_with fail
 go_ret
 exact⟨rfl,HG3.out.jF rfl (by dsimp only;omega),HT3.out⟩
set_option maxHeartbeats 1000000 in
theorem xD{k f v:Int}(hv:v≠1)(C1:Run c 38 [] zs d1 zs1 (.tuple #[.int .i64 k,.int .i64 f]))(C2:Run c 56 [] zs1 d2 zs2 (.int .i64 v)):Run c 23 [] zs (d1+d2) zs2 (.bool false):=fun p m w hG=>by
 have hvb:(v !=1)=true:=by rw[bne_iff_ne];exact hv
 clear hv
 have HG:=hid hG
 have HC1:=hid C1
 have HC2:=hid C2
 clear hG C1 C2
 go_enter Tryz.func23,Tryz.ntmps23
 have HT0:Hid (Touch (inG p) w w):=hid (Touch.refl _ _)
 go_wp2_with fail
 refine(HC1.out p _ _ HG.out).mono ?_
 rintro e wm1 ⟨rfl,hG,hT⟩
 have HG1:=hid hG
 have HT1:Hid (Touch (inG p) _ wm1):=hid (HT0.out.trans hT)
 clear hG hT
 go_wp2_with fail
 refine(HC2.out p _ _ HG1.out).mono ?_
 rintro e wm2 ⟨rfl,hG,hT⟩
 have HG2:=hid hG
 have HT2:Hid (Touch (inG p) _ wm2):=hid (HT1.out.trans hT)
 clear hG hT
 go_wp2_with fail
 go_ret
 exact⟨rfl,HG2.out.jF rfl (by dsimp only;omega),HT2.out⟩
set_option maxHeartbeats 1000000 in
theorem Cy{k f:Int}(hk:(c.N:Int)≤k)(C1:Run c 38 [] zs d1 zs1 (.tuple #[.int .i64 k,.int .i64 f]))(C2:Run c 56 [] zs1 d2 zs2 (.int .i64 1)):Run c 23 [] zs (d1+d2) zs2 (.bool false):=fun p m w hG=>by
 have hfc:=cfield0 (c.N:Int) (c.W:Int) (c.R:Int) (c.K:Int)
 have hkn:(c.N:Int)≤k:=hk
 clear hk
 have HG:=hid hG
 have HC1:=hid C1
 have HC2:=hid C2
 clear hG C1 C2
 go_enter Tryz.func23,Tryz.ntmps23
 have HT0:Hid (Touch (inG p) w w):=hid (Touch.refl _ _)
 go_wp2_with fail
 refine(HC1.out p _ _ HG.out).mono ?_
 rintro e wm1 ⟨rfl,hG,hT⟩
 have HG1:=hid hG
 have HT1:Hid (Touch (inG p) _ wm1):=hid (HT0.out.trans hT)
 clear hG hT
 go_wp2_with fail
 refine(HC2.out p _ _ HG1.out).mono ?_
 rintro e wm2 ⟨rfl,hG,hT⟩
 have HG2:=hid hG
 have HT2:Hid (Touch (inG p) _ wm2):=hid (HT1.out.trans hT)
 clear hG hT
 go_wp2_with fail
 refine(iI p c _ _ HG2.out).mono ?_
 rintro e wm3 ⟨rfl,hb⟩
 have HG3:=hid (HG2.out.later hb)
 have HT3:Hid (Touch (inG p) _ wm3):=hid (HT2.out.trans (Touch.of_below hb))
 clear hb
 go_wp2_with fail
 go_ret
 exact⟨rfl,HG3.out.jF rfl (by dsimp only;omega),HT3.out⟩
set_option maxHeartbeats 1000000 in
theorem zR{k f:Int}{b:Bool}(h0:0≤k)(hk:k<(c.N:Int))(hm:c.May)(C1:Run c 38 [] zs d1 zs1 (.tuple #[.int .i64 k,.int .i64 f]))(C2:Run c 56 [] zs1 d2 zs2 (.int .i64 1))(C3:Run c 34 [.int .i64 (k+1)] zs2 d3 zs3 (.bool false))(C4:Run c 57 [.int .i64 (k+1),.int .i64 0] zs3 d4 zs4 (.bool b)):Run c 23 [] zs (d1+d2+d3+d4) zs4 (.bool b):=fun p m w hG=>by
 have hfc:=cfield0 (c.N:Int) (c.W:Int) (c.R:Int) (c.K:Int)
 have hmn:=hm.n
 have hkn:¬(c.N:Int)≤k:=by omega
 have hw1:IntKind.i64.wrap (k+1)=k+1:=IntWalk.i64_in _ (by omega)
 clear hm hmn
 have HG:=hid hG
 have HC1:=hid C1
 have HC2:=hid C2
 have HC3:=hid C3
 have HC4:=hid C4
 clear hG C1 C2 C3 C4
 go_enter Tryz.func23,Tryz.ntmps23
 have HT0:Hid (Touch (inG p) w w):=hid (Touch.refl _ _)
 go_wp2_with fail
 refine(HC1.out p _ _ HG.out).mono ?_
 rintro e wm1 ⟨rfl,hG,hT⟩
 have HG1:=hid hG
 have HT1:Hid (Touch (inG p) _ wm1):=hid (HT0.out.trans hT)
 clear hG hT
 go_wp2_with fail
 refine(HC2.out p _ _ HG1.out).mono ?_
 rintro e wm2 ⟨rfl,hG,hT⟩
 have HG2:=hid hG
 have HT2:Hid (Touch (inG p) _ wm2):=hid (HT1.out.trans hT)
 clear hG hT
 go_wp2_with fail
 refine(iI p c _ _ HG2.out).mono ?_
 rintro e wm3 ⟨rfl,hb⟩
 have HG3:=hid (HG2.out.later hb)
 have HT3:Hid (Touch (inG p) _ wm3):=hid (HT2.out.trans (Touch.of_below hb))
 clear hb
 go_wp2_with fail
 refine(HC3.out p _ _ HG3.out).mono ?_
 rintro e wm4 ⟨rfl,hG,hT⟩
 have HG4:=hid hG
 have HT4:Hid (Touch (inG p) _ wm4):=hid (HT3.out.trans hT)
 clear hG hT
 go_wp2_with fail
 refine(HC4.out p _ _ HG4.out).mono ?_
 rintro e wm5 ⟨rfl,hG,hT⟩
 have HG5:=hid hG
 have HT5:Hid (Touch (inG p) _ wm5):=hid (HT4.out.trans hT)
 clear hG hT
 go_wp2_with fail
 go_ret
 exact⟨rfl,HG5.out.jF rfl (by dsimp only;omega),HT5.out⟩
set_option maxHeartbeats 1000000 in
theorem um{k f:Int}{b:Bool}(h0:0≤k)(hk:k<(c.N:Int))(hm:c.May)(C1:Run c 38 [] zs d1 zs1 (.tuple #[.int .i64 k,.int .i64 f]))(C2:Run c 56 [] zs1 d2 zs2 (.int .i64 1))(C3:Run c 34 [.int .i64 (k+1)] zs2 d3 zs3 (.bool true))(C4:Run c 32 [.int .i64 (k+1),.int .i64 f] zs3 d4 zs4 (.bool true))(C5:Run c 57 [.int .i64 (k+1),.int .i64 0] zs4 d5 zs5 (.bool b)):Run c 23 [] zs (d1+d2+d3+d4+d5) zs5 (.bool b):=fun p m w hG=>by
 have hfc:=cfield0 (c.N:Int) (c.W:Int) (c.R:Int) (c.K:Int)
 have hmn:=hm.n
 have hkn:¬(c.N:Int)≤k:=by omega
 have hw1:IntKind.i64.wrap (k+1)=k+1:=IntWalk.i64_in _ (by omega)
 clear hm hmn
 have HG:=hid hG
 have HC1:=hid C1
 have HC2:=hid C2
 have HC3:=hid C3
 have HC4:=hid C4
 have HC5:=hid C5
 clear hG C1 C2 C3 C4 C5
 go_enter Tryz.func23,Tryz.ntmps23
 have HT0:Hid (Touch (inG p) w w):=hid (Touch.refl _ _)
 go_wp2_with fail
 refine(HC1.out p _ _ HG.out).mono ?_
 rintro e wm1 ⟨rfl,hG,hT⟩
 have HG1:=hid hG
 have HT1:Hid (Touch (inG p) _ wm1):=hid (HT0.out.trans hT)
 clear hG hT
 go_wp2_with fail
 refine(HC2.out p _ _ HG1.out).mono ?_
 rintro e wm2 ⟨rfl,hG,hT⟩
 have HG2:=hid hG
 have HT2:Hid (Touch (inG p) _ wm2):=hid (HT1.out.trans hT)
 clear hG hT
 go_wp2_with fail
 refine(iI p c _ _ HG2.out).mono ?_
 rintro e wm3 ⟨rfl,hb⟩
 have HG3:=hid (HG2.out.later hb)
 have HT3:Hid (Touch (inG p) _ wm3):=hid (HT2.out.trans (Touch.of_below hb))
 clear hb
 go_wp2_with fail
 refine(HC3.out p _ _ HG3.out).mono ?_
 rintro e wm4 ⟨rfl,hG,hT⟩
 have HG4:=hid hG
 have HT4:Hid (Touch (inG p) _ wm4):=hid (HT3.out.trans hT)
 clear hG hT
 go_wp2_with fail
 refine(HC4.out p _ _ HG4.out).mono ?_
 rintro e wm5 ⟨rfl,hG,hT⟩
 have HG5:=hid hG
 have HT5:Hid (Touch (inG p) _ wm5):=hid (HT4.out.trans hT)
 clear hG hT
 go_wp2_with fail
 refine(HC5.out p _ _ HG5.out).mono ?_
 rintro e wm6 ⟨rfl,hG,hT⟩
 have HG6:=hid hG
 have HT6:Hid (Touch (inG p) _ wm6):=hid (HT5.out.trans hT)
 clear hG hT
 go_wp2_with fail
 go_ret
 exact⟨rfl,HG6.out.jF rfl (by dsimp only;omega),HT6.out⟩
set_option maxHeartbeats 1000000 in
theorem zQ{k f:Int}{b b2:Bool}(h0:0≤k)(hk:k<(c.N:Int))(hm:c.May)(C1:Run c 38 [] zs d1 zs1 (.tuple #[.int .i64 k,.int .i64 f]))(C2:Run c 56 [] zs1 d2 zs2 (.int .i64 1))(C3:Run c 34 [.int .i64 (k+1)] zs2 d3 zs3 (.bool true))(C4:Run c 32 [.int .i64 (k+1),.int .i64 f] zs3 d4 zs4 (.bool false))(C5:Run c 91 [.int .i64 (k+1),.int .i64 f] zs4 d5 zs5 (.bool false))(C6:Run c 64 [.int .i64 (k+1)] zs5 d6 zs6 (.bool b2))(C7:Run c 57 [.int .i64 (k+1),.int .i64 0] zs6 d7 zs7 (.bool b)):Run c 23 [] zs (d1+d2+d3+d4+d5+d6+d7) zs7 (.bool b):=fun p m w hG=>by
 have hfc:=cfield0 (c.N:Int) (c.W:Int) (c.R:Int) (c.K:Int)
 have hmn:=hm.n
 have hkn:¬(c.N:Int)≤k:=by omega
 have hw1:IntKind.i64.wrap (k+1)=k+1:=IntWalk.i64_in _ (by omega)
 clear hm hmn
 have HG:=hid hG
 have HC1:=hid C1
 have HC2:=hid C2
 have HC3:=hid C3
 have HC4:=hid C4
 have HC5:=hid C5
 have HC6:=hid C6
 have HC7:=hid C7
 clear hG C1 C2 C3 C4 C5 C6 C7
 go_enter Tryz.func23,Tryz.ntmps23
 have HT0:Hid (Touch (inG p) w w):=hid (Touch.refl _ _)
 go_wp2_with fail
 refine(HC1.out p _ _ HG.out).mono ?_
 rintro e wm1 ⟨rfl,hG,hT⟩
 have HG1:=hid hG
 have HT1:Hid (Touch (inG p) _ wm1):=hid (HT0.out.trans hT)
 clear hG hT
 go_wp2_with fail
 refine(HC2.out p _ _ HG1.out).mono ?_
 rintro e wm2 ⟨rfl,hG,hT⟩
 have HG2:=hid hG
 have HT2:Hid (Touch (inG p) _ wm2):=hid (HT1.out.trans hT)
 clear hG hT
 go_wp2_with fail
 refine(iI p c _ _ HG2.out).mono ?_
 rintro e wm3 ⟨rfl,hb⟩
 have HG3:=hid (HG2.out.later hb)
 have HT3:Hid (Touch (inG p) _ wm3):=hid (HT2.out.trans (Touch.of_below hb))
 clear hb
 go_wp2_with fail
 refine(HC3.out p _ _ HG3.out).mono ?_
 rintro e wm4 ⟨rfl,hG,hT⟩
 have HG4:=hid hG
 have HT4:Hid (Touch (inG p) _ wm4):=hid (HT3.out.trans hT)
 clear hG hT
 go_wp2_with fail
 refine(HC4.out p _ _ HG4.out).mono ?_
 rintro e wm5 ⟨rfl,hG,hT⟩
 have HG5:=hid hG
 have HT5:Hid (Touch (inG p) _ wm5):=hid (HT4.out.trans hT)
 clear hG hT
 go_wp2_with fail
 refine(HC5.out p _ _ HG5.out).mono ?_
 rintro e wm6 ⟨rfl,hG,hT⟩
 have HG6:=hid hG
 have HT6:Hid (Touch (inG p) _ wm6):=hid (HT5.out.trans hT)
 clear hG hT
 go_wp2_with fail
 refine(HC6.out p _ _ HG6.out).mono ?_
 rintro e wm7 ⟨rfl,hG,hT⟩
 have HG7:=hid hG
 have HT7:Hid (Touch (inG p) _ wm7):=hid (HT6.out.trans hT)
 clear hG hT
 go_wp2_with fail
 refine(HC7.out p _ _ HG7.out).mono ?_
 rintro e wm8 ⟨rfl,hG,hT⟩
 have HG8:=hid hG
 have HT8:Hid (Touch (inG p) _ wm8):=hid (HT7.out.trans hT)
 clear hG hT
 go_wp2_with fail
 go_ret
 exact⟨rfl,HG8.out.jF rfl (by dsimp only;omega),HT8.out⟩
set_option maxHeartbeats 1000000 in
theorem zP{k f:Int}{b:Bool}(hf0:0≤f)(hf1:f≤4294967295)(h0:0≤k)(hk:k<(c.N:Int))(hm:c.May)(C1:Run c 38 [] zs d1 zs1 (.tuple #[.int .i64 k,.int .i64 f]))(C2:Run c 56 [] zs1 d2 zs2 (.int .i64 1))(C3:Run c 34 [.int .i64 (k+1)] zs2 d3 zs3 (.bool true))(C4:Run c 32 [.int .i64 (k+1),.int .i64 f] zs3 d4 zs4 (.bool false))(C5:Run c 91 [.int .i64 (k+1),.int .i64 f] zs4 d5 zs5 (.bool true))(C6:Run c 57 [.int .i64 k,.int .i64 (f+1)] zs5 d6 zs6 (.bool b)):Run c 23 [] zs (d1+d2+d3+d4+d5+d6) zs6 (.bool b):=fun p m w hG=>by
 have hfc:=cfield0 (c.N:Int) (c.W:Int) (c.R:Int) (c.K:Int)
 have hmn:=hm.n
 have hkn:¬(c.N:Int)≤k:=by omega
 have hw1:IntKind.i64.wrap (k+1)=k+1:=IntWalk.i64_in _ (by omega)
 have hw2:IntKind.i64.wrap (f+1)=f+1:=IntWalk.i64_in _ (by omega)
 clear hm hmn hf0 hf1
 have HG:=hid hG
 have HC1:=hid C1
 have HC2:=hid C2
 have HC3:=hid C3
 have HC4:=hid C4
 have HC5:=hid C5
 have HC6:=hid C6
 clear hG C1 C2 C3 C4 C5 C6
 go_enter Tryz.func23,Tryz.ntmps23
 have HT0:Hid (Touch (inG p) w w):=hid (Touch.refl _ _)
 go_wp2_with fail
 refine(HC1.out p _ _ HG.out).mono ?_
 rintro e wm1 ⟨rfl,hG,hT⟩
 have HG1:=hid hG
 have HT1:Hid (Touch (inG p) _ wm1):=hid (HT0.out.trans hT)
 clear hG hT
 go_wp2_with fail
 refine(HC2.out p _ _ HG1.out).mono ?_
 rintro e wm2 ⟨rfl,hG,hT⟩
 have HG2:=hid hG
 have HT2:Hid (Touch (inG p) _ wm2):=hid (HT1.out.trans hT)
 clear hG hT
 go_wp2_with fail
 refine(iI p c _ _ HG2.out).mono ?_
 rintro e wm3 ⟨rfl,hb⟩
 have HG3:=hid (HG2.out.later hb)
 have HT3:Hid (Touch (inG p) _ wm3):=hid (HT2.out.trans (Touch.of_below hb))
 clear hb
 go_wp2_with fail
 refine(HC3.out p _ _ HG3.out).mono ?_
 rintro e wm4 ⟨rfl,hG,hT⟩
 have HG4:=hid hG
 have HT4:Hid (Touch (inG p) _ wm4):=hid (HT3.out.trans hT)
 clear hG hT
 go_wp2_with fail
 refine(HC4.out p _ _ HG4.out).mono ?_
 rintro e wm5 ⟨rfl,hG,hT⟩
 have HG5:=hid hG
 have HT5:Hid (Touch (inG p) _ wm5):=hid (HT4.out.trans hT)
 clear hG hT
 go_wp2_with fail
 refine(HC5.out p _ _ HG5.out).mono ?_
 rintro e wm6 ⟨rfl,hG,hT⟩
 have HG6:=hid hG
 have HT6:Hid (Touch (inG p) _ wm6):=hid (HT5.out.trans hT)
 clear hG hT
 go_wp2_with fail
 refine(HC6.out p _ _ HG6.out).mono ?_
 rintro e wm7 ⟨rfl,hG,hT⟩
 have HG7:=hid hG
 have HT7:Hid (Touch (inG p) _ wm7):=hid (HT6.out.trans hT)
 clear hG hT
 go_wp2_with fail
 go_ret
 exact⟨rfl,HG7.out.jF rfl (by dsimp only;omega),HT7.out⟩
end
section
variable (D:Wd) (r:Int)
def Wd.iD:Bool:=(D.find r).isSome&& !D.dead r
def Wd.more:Wd:=(D.up r).touch r
def Wd.ui:Wd:={D with suspect:=1}
def Wd.less:Wd:=(D.down r).ui.inter r
def Wd.ig(i:Nat)(x:Int):Wd:=(if x=0 then D else D.more x).av r i x
def Wd.si(y:Int):Wd:=if 0<D.cnt y then(D.touch y).less y else D
def Wd.put(i:Nat)(x y:Int):Wd:=(D.ig r i x).si y
def Wd.born(x y:Int):Wd:=if D.tJ x y=0 then((D.gI x y).pQ (D.jT x y)).more (D.jT x y) else D
end
section
variable {D D':Wd} {r x y:Int} {t s u:Th} {hold hold':Nat→Nat}
theorem il(hf:D.find r=some t):D.iD r= !t.mr.dead:=by unfold Wd.iD Wd.dead;rw[hf];rfl
theorem sP(hf:D.find r=none):D.iD r=false:=by unfold Wd.iD;rw[hf];rfl
theorem pM(h:D.iD r=true):∃t,D.find r=some t∧t.mr.dead=false:=by
 cases hf:D.find r with
 |none=>rw[sP hf] at h;cases h
 |some t=>rw[il hf] at h;exact⟨t,rfl,by simpa using h⟩
theorem jv(r:Int):(D.touch r).ts=D.ts∨(D.touch r).ts=(D.gD r).ts:=by
 unfold Wd.touch
 split
 ·exact .inr rfl
 ·exact .inl rfl
theorem wF(r:Int):(D.touch r).clean=D.clean∧(D.touch r).grave=D.grave∧(D.touch r).pending=D.pending∧(D.touch r).n=D.n∧(D.touch r).w=D.w∧(D.touch r).suspect=D.suspect:=by
 unfold Wd.touch
 split<;>exact⟨rfl,rfl,rfl,rfl,rfl,rfl⟩
theorem DZ(q:Int)(r:Int):(D.touch r).find q=D.find q∨(D.touch r).find q=(D.find q).map (fun t=>if t.at r then {t with mr:={t.mr with color:=D.parity}} else t):=by
 rcases jv (D:=D) r with h|h
 ·left
  unfold Wd.find
  rw[h]
 ·right
  have:(D.touch r).find q=(D.gD r).find q:=by unfold Wd.find;rw[h]
  rw[this]
  exact nP (D:=D) (r:=r) (g:=fun t=>{t with mr:={t.mr with color:=D.parity}}) (fun t=>⟨rfl,rfl⟩) q
theorem wE(q:Int)(hf:D.find q=some t)(r:Int):∃k,(D.touch r).find q=some {t with mr:={t.mr with color:=k}}:=by
 rcases DZ (D:=D) q r with h|h
 ·exact⟨t.mr.color,by rw[h,hf]⟩
 ·rw[h,hf]
  by_cases e:t.at r=true
  ·exact⟨D.parity,by simp[e]⟩
  ·exact⟨t.mr.color,by simp[e]⟩
theorem San.gD(S:San D)(r:Int):San (D.gD r):=S.mark r (fun _=>rfl) (fun _=>rfl) (fun _=>rfl)
theorem San.touch(S:San D)(r:Int):San (D.touch r):=by
 unfold Wd.touch
 split
 ·rename_i h
  have S1:=S.gD r
  refine S1.same_but rfl rfl rfl rfl (fun b hb=> ?_)
  have hb:b∈(if hasB (ints D.ring) (r-1) then D.ring else D.ring++[(r-1).toNat]):=hb
  split at hb
  ·exact .inl hb
  ·rcases List.mem_append.1 hb with hb|hb
   ·exact .inl hb
   ·right
    intro s hs e
    unfold Wd.fB at h
    cases hf:D.find r with
    |none=>rw[hf] at h;cases h
    |some t=>
     rw[hf] at h
     simp at h
     have hr:=(find_live hf).2
     have hb:=List.mem_singleton.1 hb
     have hs2:=S1.bE hs
     rw[show(s.h:Int)+1=r by omega] at hs2
     have e3:(D.gD r).find r=(D.find r).map (fun t=>if t.at r then {t with mr:={t.mr with color:=D.parity}} else t):=nP (D:=D) (r:=r) (g:=fun t=>{t with mr:={t.mr with color:=D.parity}}) (fun t=>⟨rfl,rfl⟩) r
     rw[e3,hf] at hs2
     simp[lG hf] at hs2
     rw[←hs2]
     exact h.1.2
 ·exact S
theorem gH.ts(N:gH hold D)(h:D'.ts=D.ts):gH hold D':=by
 have hl:D'.live=D.live:=by unfold Wd.live;rw[h]
 exact⟨by rw[hl,h];exact N.cnt,by rw[hl];exact N.good,by rw[hl];exact N.gJ⟩
theorem gH.touch(N:gH hold D)(S:San D)(r:Int):gH hold (D.touch r):=by
 rcases jv (D:=D) r with h|h
 ·exact N.ts h
 ·exact(N.mark S r (f:=fun m=>{m with color:=D.parity}) (fun _=>rfl) (fun _=>rfl)).ts h
theorem San.more(S:San D)(r:Int):San (D.more r):=(S.up r).touch r
theorem San.ui(S:San D):San D.ui:=S.same_but rfl rfl rfl rfl (fun b hb=>.inl hb)
theorem San.less(S:San D)(r:Int):San (D.less r):=(S.down r).ui.inter r
theorem bR(S:San D){f:df→df}(hs:s∈(D.mark x f).live):∃v,v∈D.live∧s.h=v.h∧s.pt=v.pt∧((v.h:Int)+1=x∧s.mr=f v.mr∨(v.h:Int)+1≠x∧s.mr=v.mr):=by
 cases hf:D.find x with
 |none=>
  rw[dL f hf] at hs
  exact⟨s,hs,rfl,rfl,.inr ⟨fun h=>(by have:=S.bE hs;rw[h,hf] at this;cases this),rfl⟩⟩
 |some t=>
  obtain⟨k1,k2⟩:=find_live hf
  rcases bD (g:=fun t=>{t with mr:=f t.mr}) S.nd hf hs with rfl|⟨h,hne⟩
  ·exact⟨t,k1,rfl,rfl,.inl ⟨k2,rfl⟩⟩
  ·exact⟨s,h,rfl,rfl,.inr ⟨by omega,rfl⟩⟩
theorem gH.Pn(N:gH hold D)(S:San D)(hf:D.find x=some u)(hd:u.mr.dead=false)(hh:∀h:Nat,hold' h=hold h+if(h:Int)+1=x then 1 else 0):gH hold' (D.up x):=by
 have hsum:∀y,sumL (nmT y) (D.up x).ts=sumL (nmT y) D.ts:=fun y=>eQ x (fun t=>rfl)
 refine⟨fun s hs=> ?_,fun s hs i hi=> ?_,fun s hs hds=> ?_⟩
 ·obtain⟨v,hv,e1,e2,h⟩:=bR S hs
  rw[hsum,e1,hh]
  have:=N.cnt v hv
  rcases h with⟨h,e⟩|⟨h,e⟩
  ·rw[e,if_pos h]
   show v.mr.refs+1=_
   omega
  ·rw[e,if_neg h]
   omega
 ·obtain⟨v,hv,e1,e2,_⟩:=bR S hs
  rw[e2] at hi ⊢
  rcases N.good v hv i hi with h|⟨z,hz,h⟩
  ·exact .inl h
  ·obtain⟨z',k1,k2⟩:=aM (bJ x _) hz
   exact .inr ⟨z',k1,by rw[k2];exact h⟩
 ·obtain⟨v,hv,e1,e2,h⟩:=bR S hs
  rcases h with⟨h,e⟩|⟨h,e⟩
  ·exfalso
   have:v=u:=S.same hv (find_live hf).1 (by have:=(find_live hf).2;omega)
   rw[e] at hds
   have hds:v.mr.dead=true:=hds
   rw[this,hd] at hds
   cases hds
  ·rw[e] at hds ⊢
   exact N.gJ v hv hds
theorem gH.Im(N:gH hold D)(S:San D)(hh:∀h:Nat,hold h=hold' h+if(h:Int)+1=x then 1 else 0):gH hold' (D.down x):=by
 have hsum:∀y,sumL (nmT y) (D.down x).ts=sumL (nmT y) D.ts:=fun y=>eQ x (fun t=>rfl)
 refine⟨fun s hs=> ?_,fun s hs i hi=> ?_,fun s hs hds=> ?_⟩
 ·obtain⟨v,hv,e1,e2,h⟩:=bR S hs
  have:=N.cnt v hv
  rw[hh] at this
  rw[hsum,e1]
  rcases h with⟨h,e⟩|⟨h,e⟩
  ·rw[if_pos h] at this
   rw[e]
   show v.mr.refs-1=_
   omega
  ·rw[if_neg h] at this
   rw[e]
   omega
 ·obtain⟨v,hv,e1,e2,_⟩:=bR S hs
  rw[e2] at hi ⊢
  rcases N.good v hv i hi with h|⟨z,hz,h⟩
  ·exact .inl h
  ·obtain⟨z',k1,k2⟩:=aM (bJ x _) hz
   exact .inr ⟨z',k1,by rw[k2];exact h⟩
 ·obtain⟨v,hv,e1,e2,h⟩:=bR S hs
  rcases h with⟨h,e⟩|⟨h,e⟩
  ·exfalso
   rw[e] at hds
   have h0:=N.gJ v hv hds
   have:=N.cnt v hv
   rw[hh,if_pos h] at this
   omega
  ·rw[e] at hds ⊢
   exact N.gJ v hv hds
theorem Jz(hf:D.find r=some t){i:Nat}(hi:i<t.pt.length)(x:Int)(y:Int):sumL (nmT y) (D.av r i x).ts+(if nth t.pt i=y then 1 else 0)=sumL (nmT y) D.ts+(if x=y then 1 else 0):=by
 have h1:=sH (φ:=nmT y) hf i x
 have h2:=ql y x t.pt i hi
 have h3:nmT y {t with pt:=t.pt.set i x}=fD y (t.pt.set i x):=rfl
 have h4:nmT y t=fD y t.pt:=rfl
 omega
theorem gH.setH(N:gH hold D)(S:San D)(hf:D.find r=some t){i:Nat}(hi:i<t.pt.length)(hx:x=0∨∃u,D.find x=some u)(hh:∀h:Nat,(hold' h+if(h:Int)+1=x then 1 else 0)=hold h+if(h:Int)+1=nth t.pt i then 1 else 0):gH hold' (D.av r i x):=by
 have htl:=(find_live hf).1
 have hheads:(D.av r i x).live.map Th.h=D.live.map Th.h:=dC (g:=fun t=>{t with pt:=t.pt.set i x}) hf (aR hf).2.1 rfl
 have hmem:∀s,s∈(D.av r i x).live→s={t with pt:=t.pt.set i x}∨(s∈D.live∧s.h≠t.h):=fun s hs=>bD (g:=fun t=>{t with pt:=t.pt.set i x}) S.nd hf hs
 have hb:∀s,s∈(D.av r i x).live→∃v,v∈D.live∧s.h=v.h∧s.mr=v.mr:=fun s hs=>by
  rcases hmem s hs with rfl|⟨h,_⟩
  ·exact⟨t,htl,rfl,rfl⟩
  ·exact⟨s,h,rfl,rfl⟩
 have hk:∀v,v∈D.live→∃u,u∈(D.av r i x).live∧u.h=v.h:=fun v hv=>aM hheads hv
 refine⟨fun s hs=> ?_,fun s hs j hj=> ?_,fun s hs hds=> ?_⟩
 ·obtain⟨v,hv,e1,e2⟩:=hb s hs
  have hc:=N.cnt v hv
  have h1:=Jz hf hi x ((v.h:Int)+1)
  have h2:=hh v.h
  rw[e1,e2,hc]
  have a1:(if x=(v.h:Int)+1 then 1 else 0)=(if(v.h:Int)+1=x then 1 else 0):=by
   by_cases e:x=(v.h:Int)+1
   ·rw[if_pos e,if_pos e.symm]
   ·rw[if_neg e,if_neg (Ne.symm e)]
  have a2:(if nth t.pt i=(v.h:Int)+1 then 1 else 0)=(if(v.h:Int)+1=nth t.pt i then 1 else 0):=by
   by_cases e:nth t.pt i=(v.h:Int)+1
   ·rw[if_pos e,if_pos e.symm]
   ·rw[if_neg e,if_neg (Ne.symm e)]
  rw[a1,a2] at h1
  omega
 ·rcases hmem s hs with rfl|⟨h,_⟩
  ·show nth (t.pt.set i x) j=0∨∃v:Th,v∈(D.av r i x).live∧(v.h:Int)+1=nth (t.pt.set i x) j
   by_cases e:i=j
   ·subst e
    rw[aH hi]
    rcases hx with h|⟨u,hu⟩
    ·exact .inl h
    ·obtain⟨k1,k2⟩:=find_live hu
     obtain⟨u',a1,a2⟩:=hk u k1
     exact .inr ⟨u',a1,by rw[a2];exact k2⟩
   ·rw[af e]
    rcases N.good t htl j (by simpa using hj) with h|⟨v,hv,h⟩
    ·exact .inl h
    ·obtain⟨v',a1,a2⟩:=hk v hv
     exact .inr ⟨v',a1,by rw[a2];exact h⟩
  ·rcases N.good s h j hj with h|⟨v,hv,h⟩
   ·exact .inl h
   ·obtain⟨v',a1,a2⟩:=hk v hv
    exact .inr ⟨v',a1,by rw[a2];exact h⟩
 ·obtain⟨v,hv,e1,e2⟩:=hb s hs
  rw[e2] at hds ⊢
  exact N.gJ v hv hds
def dF(x:Int)(D:Wd):Prop:=∀t,t∈D.live→t.mr.dead=false→(t.h:Int)+1≠x→0<t.mr.refs
theorem dF.mark(P:dF x D)(S:San D)(r:Int){f:df→df}(h1:∀m,(f m).dead=m.dead)(h2:∀m,0<m.refs→0<(f m).refs):dF x (D.mark r f):=fun s hs hd hx=>by
 obtain⟨v,hv,e1,e2,h⟩:=bR S hs
 rcases h with⟨h,e⟩|⟨h,e⟩
 ·rw[e,h1] at hd
  rw[e]
  exact h2 _ (P v hv hd (by rw[←e1];exact hx))
 ·rw[e] at hd ⊢
  exact P v hv hd (by rw[←e1];exact hx)
theorem dF.ts(P:dF x D)(h:D'.ts=D.ts):dF x D':=by
 have hl:D'.live=D.live:=by unfold Wd.live;rw[h]
 unfold dF
 rw[hl]
 exact P
theorem dF.touch(P:dF x D)(S:San D)(r:Int):dF x (D.touch r):=by
 rcases jv (D:=D) r with h|h
 ·exact P.ts h
 ·exact(P.mark S r (f:=fun m=>{m with color:=D.parity}) (fun _=>rfl) (fun _ h=>h)).ts h
theorem dF.Ps(P:dF x D)(N:gH hold D)(S:San D):dF 0 (D.up x):=fun s hs hd _=>by
 obtain⟨v,hv,e1,e2,h⟩:=bR S hs
 rcases h with⟨h,e⟩|⟨h,e⟩
 ·rw[e]
  show 0<v.mr.refs+1
  have:=N.cnt v hv
  omega
 ·rw[e] at hd ⊢
  exact P v hv hd h
theorem dF.up(P:dF 0 D)(N:gH hold D)(S:San D)(r:Int):dF 0 (D.up r):=fun s hs hd hx=>by
 obtain⟨v,hv,e1,e2,h⟩:=bR S hs
 rcases h with⟨h,e⟩|⟨h,e⟩
 ·rw[e]
  show 0<v.mr.refs+1
  have:=N.cnt v hv
  omega
 ·rw[e] at hd ⊢
  exact P v hv hd (by omega)
theorem dF.down(P:dF 0 D)(S:San D)(r:Int):dF r (D.down r):=fun s hs hd hx=>by
 obtain⟨v,hv,e1,e2,h⟩:=bR S hs
 rcases h with⟨h,e⟩|⟨h,e⟩
 ·exact absurd (by rw[e1];exact h) hx
 ·rw[e] at hd ⊢
  exact P v hv hd (by omega)
theorem dF.bury(P:dF x D)(S:San D):dF 0 (D.bury x):=by
 unfold Wd.bury
 cases hf:D.find x with
 |none=>exact fun s hs hd _=>P s hs hd (fun h=>by have:=S.bE hs;rw[h,hf] at this;cases this)
 |some t=>
  simp only
  cases htd:t.mr.dead with
  |true=>
   rw[if_pos rfl]
   refine fun s hs hd _=>P s hs hd (fun h=> ?_)
   have:=S.bE hs
   rw[h,hf] at this
   cases this
   rw[htd] at hd
   cases hd
  |false=>
   rw[if_neg (by decide)]
   intro s hs hd _
   unfold Wd.live at hs
   rw[lay_ts] at hs
   rcases bD (g:=fun s=>{s with mr:={s.mr with dead:=true,left:=(t.pt.length:Int),leaves:=(t.lv.length:Int)}}) S.nd hf hs with rfl|⟨h,hne⟩
   ·cases hd
   ·exact P s h hd (by have:=(find_live hf).2;omega)
theorem dF.inter(P:dF x D)(N:gH hold D)(S:San D):dF 0 (D.inter x):=by
 unfold Wd.inter
 split
 ·exact P.bury S
 ·rename_i h
  intro s hs hd _
  by_cases e:(s.h:Int)+1=x
  ·have:=N.cnt s hs
   have h2:=S.bE hs
   rw[e] at h2
   unfold Wd.cnt at h
   rw[h2] at h
   simp only at h
   omega
  ·exact P s hs hd e
theorem dF.less(P:dF 0 D)(S:San D)(N:gH hold' (D.down r)):dF 0 (D.less r):=((P.down S r).ts (D':=(D.down r).ui) rfl).inter (N.ts (D':=(D.down r).ui) rfl) (S.down r).ui
theorem gH.less(N:gH hold D)(S:San D)(hh:∀h:Nat,hold h=hold' h+if(h:Int)+1=r then 1 else 0):gH hold' (D.less r):=((N.Im S hh).ts (D':=(D.down r).ui) rfl).inter (S.down r).ui r
end
section
variable {c:Cf} {zs zs1 zs2 zs3 zs4 zs5 zs6 zs7:List Int} {d1 d2 d3 d4 d5 d6 d7:Nat}
set_option maxHeartbeats 1000000 in
theorem Bi{r:Int}(C1:Run c 34 [.int .i64 r] zs d1 zs1 (.bool false)):Run c 103 [.int .i64 r] zs (d1) zs1 (.bool false):=fun p m w hG=>by
 have HG:=hid hG
 have HC1:=hid C1
 clear hG C1
 go_enter Tryz.func103,Tryz.ntmps103
 have HT0:Hid (Touch (inG p) w w):=hid (Touch.refl _ _)
 go_wp2_with fail
 refine(HC1.out p _ _ HG.out).mono ?_
 rintro e wm1 ⟨rfl,hG,hT⟩
 have HG1:=hid hG
 have HT1:Hid (Touch (inG p) _ wm1):=hid (HT0.out.trans hT)
 clear hG hT
 go_wp2_with fail
 go_ret
 exact⟨rfl,HG1.out,HT1.out⟩
set_option maxHeartbeats 1000000 in
theorem IZ{r:Int}{b:Bool}(C1:Run c 34 [.int .i64 r] zs d1 zs1 (.bool true))(C2:Run c 35 [.int .i64 r] zs1 d2 zs2 (.bool b)):Run c 103 [.int .i64 r] zs (d1+d2) zs2 (.bool (!b)):=fun p m w hG=>by
 have HG:=hid hG
 have HC1:=hid C1
 have HC2:=hid C2
 clear hG C1 C2
 go_enter Tryz.func103,Tryz.ntmps103
 have HT0:Hid (Touch (inG p) w w):=hid (Touch.refl _ _)
 go_wp2_with fail
 refine(HC1.out p _ _ HG.out).mono ?_
 rintro e wm1 ⟨rfl,hG,hT⟩
 have HG1:=hid hG
 have HT1:Hid (Touch (inG p) _ wm1):=hid (HT0.out.trans hT)
 clear hG hT
 go_wp2_with fail
 refine(HC2.out p _ _ HG1.out).mono ?_
 rintro e wm2 ⟨rfl,hG,hT⟩
 have HG2:=hid hG
 have HT2:Hid (Touch (inG p) _ wm2):=hid (HT1.out.trans hT)
 clear hG hT
 go_wp2_with fail
 go_ret
 exact⟨rfl,HG2.out.jF rfl (by dsimp only;omega),HT2.out⟩
set_option maxHeartbeats 1000000 in
theorem KP{r n:Int}{b:Bool}(C1:Run c 96 [.int .i64 r] zs d1 zs1 (.tuple #[.int .i64 n,.bool true]))(C2:Run c 60 [.int .i64 r] zs1 d2 zs2 (.bool b)):Run c 102 [.int .i64 r] zs (d1+d2) zs2 (.bool true):=fun p m w hG=>by
 have HG:=hid hG
 have HC1:=hid C1
 have HC2:=hid C2
 clear hG C1 C2
 go_enter Tryz.func102,Tryz.ntmps102
 have HT0:Hid (Touch (inG p) w w):=hid (Touch.refl _ _)
 go_wp2_with fail
 refine(HC1.out p _ _ HG.out).mono ?_
 rintro e wm1 ⟨rfl,hG,hT⟩
 have HG1:=hid hG
 have HT1:Hid (Touch (inG p) _ wm1):=hid (HT0.out.trans hT)
 clear hG hT
 go_wp2_with fail
 refine(HC2.out p _ _ HG1.out).mono ?_
 rintro e wm2 ⟨rfl,hG,hT⟩
 have HG2:=hid hG
 have HT2:Hid (Touch (inG p) _ wm2):=hid (HT1.out.trans hT)
 clear hG hT
 go_wp2_with fail
 go_ret
 exact⟨rfl,HG2.out.jF rfl (by dsimp only;omega),HT2.out⟩
set_option maxHeartbeats 1000000 in
theorem KO{r n:Int}(hn:n≠0)(C1:Run c 159 [.int .i64 r] zs d1 zs1 (.tuple #[.int .i64 n,.bool true])):Run c 104 [.int .i64 r] zs (d1+1) (zs1.set 16 1) (.bool true):=fun p m w hG=>by
 have hnb:(n==0)=false:=eG hn
 clear hn
 have HG:=hid hG
 have HC1:=hid C1
 clear hG C1
 go_enter Tryz.func104,Tryz.ntmps104
 have HT0:Hid (Touch (inG p) w w):=hid (Touch.refl _ _)
 go_wp2_with fail
 refine(HC1.out p _ _ HG.out).mono ?_
 rintro e wm1 ⟨rfl,hG,hT⟩
 have HG1:=hid hG
 have HT1:Hid (Touch (inG p) _ wm1):=hid (HT0.out.trans hT)
 clear hG hT
 go_wp2_with fail
 refine(aP p c _ 16 _ 1 _ HG1.out (by omega) rfl (by omega) (by omega)).mono ?_
 rintro e wm2 ⟨rfl,hG,hT⟩
 have HG2:=hid hG
 have HT2:Hid (Touch (inG p) _ wm2):=hid (HT1.out.trans hT)
 clear hG hT
 go_wp2_with fail
 go_ret
 exact⟨rfl,HG2.out.jF rfl (by dsimp only[St.got,St.set];omega),HT2.out⟩
set_option maxHeartbeats 1000000 in
theorem Ja{r:Int}{b:Bool}(C1:Run c 159 [.int .i64 r] zs d1 zs1 (.tuple #[.int .i64 0,.bool true]))(C2:Run c 26 [.int .i64 r] (zs1.set 16 1) d2 zs2 (.bool b)):Run c 104 [.int .i64 r] zs (d1+1+d2) zs2 (.bool true):=fun p m w hG=>by
 have HG:=hid hG
 have HC1:=hid C1
 have HC2:=hid C2
 clear hG C1 C2
 go_enter Tryz.func104,Tryz.ntmps104
 have HT0:Hid (Touch (inG p) w w):=hid (Touch.refl _ _)
 go_wp2_with fail
 refine(HC1.out p _ _ HG.out).mono ?_
 rintro e wm1 ⟨rfl,hG,hT⟩
 have HG1:=hid hG
 have HT1:Hid (Touch (inG p) _ wm1):=hid (HT0.out.trans hT)
 clear hG hT
 go_wp2_with fail
 refine(aP p c _ 16 _ 1 _ HG1.out (by omega) rfl (by omega) (by omega)).mono ?_
 rintro e wm2 ⟨rfl,hG,hT⟩
 have HG2:=hid hG
 have HT2:Hid (Touch (inG p) _ wm2):=hid (HT1.out.trans hT)
 clear hG hT
 go_wp2_with fail
 refine(HC2.out p _ _ HG2.out).mono ?_
 rintro e wm3 ⟨rfl,hG,hT⟩
 have HG3:=hid hG
 have HT3:Hid (Touch (inG p) _ wm3):=hid (HT2.out.trans hT)
 clear hG hT
 go_wp2_with fail
 go_ret
 exact⟨rfl,HG3.out.jF rfl (by dsimp only[St.got,St.set];omega),HT3.out⟩
set_option maxHeartbeats 1000000 in
theorem Dp{r:Int}(C1:Run c 103 [.int .i64 r] zs d1 zs1 (.bool false)):Run c 44 [.int .i64 r] zs (d1) zs1 (.bool false):=fun p m w hG=>by
 have HG:=hid hG
 have HC1:=hid C1
 clear hG C1
 go_enter Tryz.func44,Tryz.ntmps44
 have HT0:Hid (Touch (inG p) w w):=hid (Touch.refl _ _)
 go_wp2_with fail
 refine(HC1.out p _ _ HG.out).mono ?_
 rintro e wm1 ⟨rfl,hG,hT⟩
 have HG1:=hid hG
 have HT1:Hid (Touch (inG p) _ wm1):=hid (HT0.out.trans hT)
 clear hG hT
 go_wp2_with fail
 go_ret
 exact⟨rfl,HG1.out,HT1.out⟩
set_option maxHeartbeats 1000000 in
theorem KN{r:Int}{b:Bool}(C1:Run c 103 [.int .i64 r] zs d1 zs1 (.bool true))(C2:Run c 102 [.int .i64 r] zs1 d2 zs2 (.bool b)):Run c 44 [.int .i64 r] zs (d1+d2) zs2 (.bool b):=fun p m w hG=>by
 have HG:=hid hG
 have HC1:=hid C1
 have HC2:=hid C2
 clear hG C1 C2
 go_enter Tryz.func44,Tryz.ntmps44
 have HT0:Hid (Touch (inG p) w w):=hid (Touch.refl _ _)
 go_wp2_with fail
 refine(HC1.out p _ _ HG.out).mono ?_
 rintro e wm1 ⟨rfl,hG,hT⟩
 have HG1:=hid hG
 have HT1:Hid (Touch (inG p) _ wm1):=hid (HT0.out.trans hT)
 clear hG hT
 go_wp2_with fail
 refine(HC2.out p _ _ HG1.out).mono ?_
 rintro e wm2 ⟨rfl,hG,hT⟩
 have HG2:=hid hG
 have HT2:Hid (Touch (inG p) _ wm2):=hid (HT1.out.trans hT)
 clear hG hT
 go_wp2_with fail
 go_ret
 exact⟨rfl,HG2.out.jF rfl (by dsimp only;omega),HT2.out⟩
set_option maxHeartbeats 1000000 in
theorem MM{r:Int}{b:Bool}(C1:Run c 103 [.int .i64 r] zs d1 zs1 (.bool true))(C2:Run c 104 [.int .i64 r] zs1 d2 zs2 (.bool b)):Run c 45 [.int .i64 r] zs (d1+d2) zs2 (.bool b):=fun p m w hG=>by
 have HG:=hid hG
 have HC1:=hid C1
 have HC2:=hid C2
 clear hG C1 C2
 go_enter Tryz.func45,Tryz.ntmps45
 have HT0:Hid (Touch (inG p) w w):=hid (Touch.refl _ _)
 go_wp2_with fail
 refine(HC1.out p _ _ HG.out).mono ?_
 rintro e wm1 ⟨rfl,hG,hT⟩
 have HG1:=hid hG
 have HT1:Hid (Touch (inG p) _ wm1):=hid (HT0.out.trans hT)
 clear hG hT
 go_wp2_with fail
 refine(HC2.out p _ _ HG1.out).mono ?_
 rintro e wm2 ⟨rfl,hG,hT⟩
 have HG2:=hid hG
 have HT2:Hid (Touch (inG p) _ wm2):=hid (HT1.out.trans hT)
 clear hG hT
 go_wp2_with fail
 go_ret
 exact⟨rfl,HG2.out.jF rfl (by dsimp only;omega),HT2.out⟩
set_option maxHeartbeats 1000000 in
theorem Be{r i x:Int}(C1:Run c 103 [.int .i64 r] zs d1 zs1 (.bool false)):Run c 43 [.int .i64 r,.int .i64 i,.int .i64 x] zs (d1) zs1 (.int .i64 8):=fun p m w hG=>by
 have HG:=hid hG
 have HC1:=hid C1
 clear hG C1
 go_enter Tryz.func43,Tryz.ntmps43
 have HT0:Hid (Touch (inG p) w w):=hid (Touch.refl _ _)
 go_wp2_with fail
 refine(HC1.out p _ _ HG.out).mono ?_
 rintro e wm1 ⟨rfl,hG,hT⟩
 have HG1:=hid hG
 have HT1:Hid (Touch (inG p) _ wm1):=hid (HT0.out.trans hT)
 clear hG hT
 go_wp2_with fail
 go_ret
 exact⟨rfl,HG1.out,HT1.out⟩
set_option maxHeartbeats 1000000 in
theorem za{r i x y e:Int}(he:e≠0)(C1:Run c 103 [.int .i64 r] zs d1 zs1 (.bool true))(C2:Run c 94 [.int .i64 r,.int .i64 i] zs1 d2 zs2 (.tuple #[.int .i64 y,.int .i64 e])):Run c 43 [.int .i64 r,.int .i64 i,.int .i64 x] zs (d1+d2) zs2 (.int .i64 e):=fun p m w hG=>by
 have heb:(e !=0)=true:=by rw[bne_iff_ne];exact he
 clear he
 have HG:=hid hG
 have HC1:=hid C1
 have HC2:=hid C2
 clear hG C1 C2
 go_enter Tryz.func43,Tryz.ntmps43
 have HT0:Hid (Touch (inG p) w w):=hid (Touch.refl _ _)
 go_wp2_with fail
 refine(HC1.out p _ _ HG.out).mono ?_
 rintro e wm1 ⟨rfl,hG,hT⟩
 have HG1:=hid hG
 have HT1:Hid (Touch (inG p) _ wm1):=hid (HT0.out.trans hT)
 clear hG hT
 go_wp2_with fail
 refine(HC2.out p _ _ HG1.out).mono ?_
 rintro e wm2 ⟨rfl,hG,hT⟩
 have HG2:=hid hG
 have HT2:Hid (Touch (inG p) _ wm2):=hid (HT1.out.trans hT)
 clear hG hT
 go_wp2_with fail
 go_ret
 exact⟨rfl,HG2.out.jF rfl (by dsimp only;omega),HT2.out⟩
set_option maxHeartbeats 1000000 in
theorem Dq{r i x y:Int}(hx:x≠0)(C1:Run c 103 [.int .i64 r] zs d1 zs1 (.bool true))(C2:Run c 94 [.int .i64 r,.int .i64 i] zs1 d2 zs2 (.tuple #[.int .i64 y,.int .i64 0]))(C3:Run c 44 [.int .i64 x] zs2 d3 zs3 (.bool false)):Run c 43 [.int .i64 r,.int .i64 i,.int .i64 x] zs (d1+d2+d3) zs3 (.int .i64 2):=fun p m w hG=>by
 have hxb:(x !=0)=true:=by rw[bne_iff_ne];exact hx
 clear hx
 have HG:=hid hG
 have HC1:=hid C1
 have HC2:=hid C2
 have HC3:=hid C3
 clear hG C1 C2 C3
 go_enter Tryz.func43,Tryz.ntmps43
 have HT0:Hid (Touch (inG p) w w):=hid (Touch.refl _ _)
 go_wp2_with fail
 refine(HC1.out p _ _ HG.out).mono ?_
 rintro e wm1 ⟨rfl,hG,hT⟩
 have HG1:=hid hG
 have HT1:Hid (Touch (inG p) _ wm1):=hid (HT0.out.trans hT)
 clear hG hT
 go_wp2_with fail
 refine(HC2.out p _ _ HG1.out).mono ?_
 rintro e wm2 ⟨rfl,hG,hT⟩
 have HG2:=hid hG
 have HT2:Hid (Touch (inG p) _ wm2):=hid (HT1.out.trans hT)
 clear hG hT
 go_wp2_with fail
 refine(HC3.out p _ _ HG2.out).mono ?_
 rintro e wm3 ⟨rfl,hG,hT⟩
 have HG3:=hid hG
 have HT3:Hid (Touch (inG p) _ wm3):=hid (HT2.out.trans hT)
 clear hG hT
 go_wp2_with fail
 go_ret
 exact⟨rfl,HG3.out.jF rfl (by dsimp only;omega),HT3.out⟩
set_option maxHeartbeats 1000000 in
theorem Bg{r i y k:Int}(hk:¬0<k)(C1:Run c 103 [.int .i64 r] zs d1 zs1 (.bool true))(C2:Run c 94 [.int .i64 r,.int .i64 i] zs1 d2 zs2 (.tuple #[.int .i64 y,.int .i64 0]))(C3:Run c 95 [.int .i64 r,.int .i64 i,.int .i64 0] zs2 d3 zs3 (.int .i64 0))(C4:Run c 37 [.int .i64 y] zs3 d4 zs4 (.int .i64 k)):Run c 43 [.int .i64 r,.int .i64 i,.int .i64 0] zs (d1+d2+d3+d4) zs4 (.int .i64 0):=fun p m w hG=>by
 have hkz:¬0<k:=hk
 clear hk
 have HG:=hid hG
 have HC1:=hid C1
 have HC2:=hid C2
 have HC3:=hid C3
 have HC4:=hid C4
 clear hG C1 C2 C3 C4
 go_enter Tryz.func43,Tryz.ntmps43
 have HT0:Hid (Touch (inG p) w w):=hid (Touch.refl _ _)
 go_wp2_with fail
 refine(HC1.out p _ _ HG.out).mono ?_
 rintro e wm1 ⟨rfl,hG,hT⟩
 have HG1:=hid hG
 have HT1:Hid (Touch (inG p) _ wm1):=hid (HT0.out.trans hT)
 clear hG hT
 go_wp2_with fail
 refine(HC2.out p _ _ HG1.out).mono ?_
 rintro e wm2 ⟨rfl,hG,hT⟩
 have HG2:=hid hG
 have HT2:Hid (Touch (inG p) _ wm2):=hid (HT1.out.trans hT)
 clear hG hT
 go_wp2_with fail
 refine(HC3.out p _ _ HG2.out).mono ?_
 rintro e wm3 ⟨rfl,hG,hT⟩
 have HG3:=hid hG
 have HT3:Hid (Touch (inG p) _ wm3):=hid (HT2.out.trans hT)
 clear hG hT
 go_wp2_with fail
 refine(HC4.out p _ _ HG3.out).mono ?_
 rintro e wm4 ⟨rfl,hG,hT⟩
 have HG4:=hid hG
 have HT4:Hid (Touch (inG p) _ wm4):=hid (HT3.out.trans hT)
 clear hG hT
 go_wp2_with fail
 go_ret
 exact⟨rfl,HG4.out.jF rfl (by dsimp only;omega),HT4.out⟩
set_option maxHeartbeats 1000000 in
theorem ze{r i y k:Int}{b b2:Bool}(hk:0<k)(C1:Run c 103 [.int .i64 r] zs d1 zs1 (.bool true))(C2:Run c 94 [.int .i64 r,.int .i64 i] zs1 d2 zs2 (.tuple #[.int .i64 y,.int .i64 0]))(C3:Run c 95 [.int .i64 r,.int .i64 i,.int .i64 0] zs2 d3 zs3 (.int .i64 0))(C4:Run c 37 [.int .i64 y] zs3 d4 zs4 (.int .i64 k))(C5:Run c 60 [.int .i64 y] zs4 d5 zs5 (.bool b))(C6:Run c 104 [.int .i64 y] zs5 d6 zs6 (.bool b2)):Run c 43 [.int .i64 r,.int .i64 i,.int .i64 0] zs (d1+d2+d3+d4+d5+d6) zs6 (.int .i64 0):=fun p m w hG=>by
 have hkp:0<k:=hk
 clear hk
 have HG:=hid hG
 have HC1:=hid C1
 have HC2:=hid C2
 have HC3:=hid C3
 have HC4:=hid C4
 have HC5:=hid C5
 have HC6:=hid C6
 clear hG C1 C2 C3 C4 C5 C6
 go_enter Tryz.func43,Tryz.ntmps43
 have HT0:Hid (Touch (inG p) w w):=hid (Touch.refl _ _)
 go_wp2_with fail
 refine(HC1.out p _ _ HG.out).mono ?_
 rintro e wm1 ⟨rfl,hG,hT⟩
 have HG1:=hid hG
 have HT1:Hid (Touch (inG p) _ wm1):=hid (HT0.out.trans hT)
 clear hG hT
 go_wp2_with fail
 refine(HC2.out p _ _ HG1.out).mono ?_
 rintro e wm2 ⟨rfl,hG,hT⟩
 have HG2:=hid hG
 have HT2:Hid (Touch (inG p) _ wm2):=hid (HT1.out.trans hT)
 clear hG hT
 go_wp2_with fail
 refine(HC3.out p _ _ HG2.out).mono ?_
 rintro e wm3 ⟨rfl,hG,hT⟩
 have HG3:=hid hG
 have HT3:Hid (Touch (inG p) _ wm3):=hid (HT2.out.trans hT)
 clear hG hT
 go_wp2_with fail
 refine(HC4.out p _ _ HG3.out).mono ?_
 rintro e wm4 ⟨rfl,hG,hT⟩
 have HG4:=hid hG
 have HT4:Hid (Touch (inG p) _ wm4):=hid (HT3.out.trans hT)
 clear hG hT
 go_wp2_with fail
 refine(HC5.out p _ _ HG4.out).mono ?_
 rintro e wm5 ⟨rfl,hG,hT⟩
 have HG5:=hid hG
 have HT5:Hid (Touch (inG p) _ wm5):=hid (HT4.out.trans hT)
 clear hG hT
 go_wp2_with fail
 refine(HC6.out p _ _ HG5.out).mono ?_
 rintro e wm6 ⟨rfl,hG,hT⟩
 have HG6:=hid hG
 have HT6:Hid (Touch (inG p) _ wm6):=hid (HT5.out.trans hT)
 clear hG hT
 go_wp2_with fail
 go_ret
 exact⟨rfl,HG6.out.jF rfl (by dsimp only;omega),HT6.out⟩
set_option maxHeartbeats 1000000 in
theorem Dr{r i x y k:Int}(hx:x≠0)(hk:¬0<k)(C1:Run c 103 [.int .i64 r] zs d1 zs1 (.bool true))(C2:Run c 94 [.int .i64 r,.int .i64 i] zs1 d2 zs2 (.tuple #[.int .i64 y,.int .i64 0]))(C3:Run c 44 [.int .i64 x] zs2 d3 zs3 (.bool true))(C4:Run c 95 [.int .i64 r,.int .i64 i,.int .i64 x] zs3 d4 zs4 (.int .i64 0))(C5:Run c 37 [.int .i64 y] zs4 d5 zs5 (.int .i64 k)):Run c 43 [.int .i64 r,.int .i64 i,.int .i64 x] zs (d1+d2+d3+d4+d5) zs5 (.int .i64 0):=fun p m w hG=>by
 have hxb:(x !=0)=true:=by rw[bne_iff_ne];exact hx
 clear hx
 have hkz:¬0<k:=hk
 clear hk
 have HG:=hid hG
 have HC1:=hid C1
 have HC2:=hid C2
 have HC3:=hid C3
 have HC4:=hid C4
 have HC5:=hid C5
 clear hG C1 C2 C3 C4 C5
 go_enter Tryz.func43,Tryz.ntmps43
 have HT0:Hid (Touch (inG p) w w):=hid (Touch.refl _ _)
 go_wp2_with fail
 refine(HC1.out p _ _ HG.out).mono ?_
 rintro e wm1 ⟨rfl,hG,hT⟩
 have HG1:=hid hG
 have HT1:Hid (Touch (inG p) _ wm1):=hid (HT0.out.trans hT)
 clear hG hT
 go_wp2_with fail
 refine(HC2.out p _ _ HG1.out).mono ?_
 rintro e wm2 ⟨rfl,hG,hT⟩
 have HG2:=hid hG
 have HT2:Hid (Touch (inG p) _ wm2):=hid (HT1.out.trans hT)
 clear hG hT
 go_wp2_with fail
 refine(HC3.out p _ _ HG2.out).mono ?_
 rintro e wm3 ⟨rfl,hG,hT⟩
 have HG3:=hid hG
 have HT3:Hid (Touch (inG p) _ wm3):=hid (HT2.out.trans hT)
 clear hG hT
 go_wp2_with fail
 refine(HC4.out p _ _ HG3.out).mono ?_
 rintro e wm4 ⟨rfl,hG,hT⟩
 have HG4:=hid hG
 have HT4:Hid (Touch (inG p) _ wm4):=hid (HT3.out.trans hT)
 clear hG hT
 go_wp2_with fail
 refine(HC5.out p _ _ HG4.out).mono ?_
 rintro e wm5 ⟨rfl,hG,hT⟩
 have HG5:=hid hG
 have HT5:Hid (Touch (inG p) _ wm5):=hid (HT4.out.trans hT)
 clear hG hT
 go_wp2_with fail
 go_ret
 exact⟨rfl,HG5.out.jF rfl (by dsimp only;omega),HT5.out⟩
set_option maxHeartbeats 1000000 in
theorem Bf{r i x y k:Int}{b b2:Bool}(hx:x≠0)(hk:0<k)(C1:Run c 103 [.int .i64 r] zs d1 zs1 (.bool true))(C2:Run c 94 [.int .i64 r,.int .i64 i] zs1 d2 zs2 (.tuple #[.int .i64 y,.int .i64 0]))(C3:Run c 44 [.int .i64 x] zs2 d3 zs3 (.bool true))(C4:Run c 95 [.int .i64 r,.int .i64 i,.int .i64 x] zs3 d4 zs4 (.int .i64 0))(C5:Run c 37 [.int .i64 y] zs4 d5 zs5 (.int .i64 k))(C6:Run c 60 [.int .i64 y] zs5 d6 zs6 (.bool b))(C7:Run c 104 [.int .i64 y] zs6 d7 zs7 (.bool b2)):Run c 43 [.int .i64 r,.int .i64 i,.int .i64 x] zs (d1+d2+d3+d4+d5+d6+d7) zs7 (.int .i64 0):=fun p m w hG=>by
 have hxb:(x !=0)=true:=by rw[bne_iff_ne];exact hx
 clear hx
 have hkp:0<k:=hk
 clear hk
 have HG:=hid hG
 have HC1:=hid C1
 have HC2:=hid C2
 have HC3:=hid C3
 have HC4:=hid C4
 have HC5:=hid C5
 have HC6:=hid C6
 have HC7:=hid C7
 clear hG C1 C2 C3 C4 C5 C6 C7
 go_enter Tryz.func43,Tryz.ntmps43
 have HT0:Hid (Touch (inG p) w w):=hid (Touch.refl _ _)
 go_wp2_with fail
 refine(HC1.out p _ _ HG.out).mono ?_
 rintro e wm1 ⟨rfl,hG,hT⟩
 have HG1:=hid hG
 have HT1:Hid (Touch (inG p) _ wm1):=hid (HT0.out.trans hT)
 clear hG hT
 go_wp2_with fail
 refine(HC2.out p _ _ HG1.out).mono ?_
 rintro e wm2 ⟨rfl,hG,hT⟩
 have HG2:=hid hG
 have HT2:Hid (Touch (inG p) _ wm2):=hid (HT1.out.trans hT)
 clear hG hT
 go_wp2_with fail
 refine(HC3.out p _ _ HG2.out).mono ?_
 rintro e wm3 ⟨rfl,hG,hT⟩
 have HG3:=hid hG
 have HT3:Hid (Touch (inG p) _ wm3):=hid (HT2.out.trans hT)
 clear hG hT
 go_wp2_with fail
 refine(HC4.out p _ _ HG3.out).mono ?_
 rintro e wm4 ⟨rfl,hG,hT⟩
 have HG4:=hid hG
 have HT4:Hid (Touch (inG p) _ wm4):=hid (HT3.out.trans hT)
 clear hG hT
 go_wp2_with fail
 refine(HC5.out p _ _ HG4.out).mono ?_
 rintro e wm5 ⟨rfl,hG,hT⟩
 have HG5:=hid hG
 have HT5:Hid (Touch (inG p) _ wm5):=hid (HT4.out.trans hT)
 clear hG hT
 go_wp2_with fail
 refine(HC6.out p _ _ HG5.out).mono ?_
 rintro e wm6 ⟨rfl,hG,hT⟩
 have HG6:=hid hG
 have HT6:Hid (Touch (inG p) _ wm6):=hid (HT5.out.trans hT)
 clear hG hT
 go_wp2_with fail
 refine(HC7.out p _ _ HG6.out).mono ?_
 rintro e wm7 ⟨rfl,hG,hT⟩
 have HG7:=hid hG
 have HT7:Hid (Touch (inG p) _ wm7):=hid (HT6.out.trans hT)
 clear hG hT
 go_wp2_with fail
 go_ret
 exact⟨rfl,HG7.out.jF rfl (by dsimp only;omega),HT7.out⟩
end
end Go.Proofs.YtbhhfnlkpieebaaGreat.Pk
