/-
  Texts laid together: GravNam, GravCnt, GraveLaw, GravGrow, GravNamed, TallyFn, FloodFn, RefG.
-/
import Derived.Test.YtofhdfjkhfkhiaaGreatActsWzEtc
import Derived.Test.YtofhdfjkhfkhiaaGreatRefMkEtc
import Derived.Test.YtofhdfjkhfkhiaaGreatTintFn4Etc
import Derived.Test.YtofhdfjkhfkhiaaGreatPoolFnEtc
import Derived.Test.YtofhdfjkhfkhiaaGreatRingFn3Etc
import Derived.Test.YtofhdfjkhfkhiaaGreatObjFn4Etc
import Derived.Test.YtofhdfjkhfkhiaaGreatRingFnEtc
import Derived.Test.YtofhdfjkhfkhiaaGreatTagFnEtc
namespace Go.Proofs.YtofhdfjkhfkhiaaGreat.Pk
open Lib (hid)
open Go.RowKit
set_option linter.unusedVariables false
set_option linter.unusedSimpArgs false
set_option maxRecDepth 100000
section
variable {D D':Wd} {r:Int} {t s u:Th} {g:Th→Th} {φ:Th→Nat}
theorem wX{f g:Th→Th}(hf:∀t,(f t).ended=t.ended∧(f t).h=t.h):∀l:List Th,updL r g (updL r f l)=updL r (fun t=>g (f t)) l
 |[]=>rfl
 |u::l=>by
  have hat:(f u).at r=u.at r:=by unfold Th.at;rw[(hf u).1,(hf u).2]
  simp only[updL]
  cases h:u.at r with
  |true=>simp[updL,hat,h]
  |false=>simp[updL,h,wX hf l]
theorem sumL_mark(r:Int){f:Mrk→Mrk}(h:∀t:Th,φ {t with mr:=f t.mr}=φ t):sumL φ (D.mark r f).ts=sumL φ D.ts:=by
 cases hf:D.find r with
 |none=>rw[mark_none f hf]
 |some t=>
  have:=sumL_upd (φ:=φ) (g:=fun t=>{t with mr:=f t.mr}) (t:=t) hf (find_at hf).2.1
  rw[h] at this
  show sumL φ (updL r (fun t=>{t with mr:=f t.mr}) D.ts)=_
  omega
theorem qd(hf:D.find r=some t)(i:Nat)(x:Int):sumL φ (D.setP r i x).ts+φ t=sumL φ D.ts+φ {t with pt:=t.pt.set i x}:=sumL_upd (g:=fun t=>{t with pt:=t.pt.set i x}) hf (find_at hf).2.1
theorem EX(x:Int)(h:∀t:Th,t.mr.dead=false→φ (sO t)=φ t):sumL φ (D.bury x).ts=sumL φ D.ts:=by
 unfold Wd.bury
 cases hf:D.find x with
 |none=>rfl
 |some t=>
  simp only
  cases hd:t.mr.dead with
  |true=>simp
  |false=>
   simp only[Bool.false_eq_true,if_false]
   rw[lay_ts]
   have:=sumL_upd (φ:=φ) (g:=fun s=>{s with mr:={s.mr with dead:=true,left:=(t.pt.length:Int),leaves:=(t.lv.length:Int)}}) (t:=t) hf (find_at hf).2.1
   have e:φ ({t with mr:={t.mr with dead:=true,left:=(t.pt.length:Int),leaves:=(t.lv.length:Int)}})=φ t:=h t hd
   omega
theorem Jy(i:Nat)(x:Int):(D.drain r i x).w=D.w∧(D.drain r i x).n=D.n∧(D.drain r i x).clean=D.clean:=by
 have key:∀D2:Wd,(if(D2.down x).cnt x=0 then(D2.down x).bury x else D2.down x).w=D2.w∧(if(D2.down x).cnt x=0 then(D2.down x).bury x else D2.down x).n=D2.n∧(if(D2.down x).cnt x=0 then(D2.down x).bury x else D2.down x).clean=D2.clean:=fun D2=>by
  split
  ·exact⟨(oV x).2.2,(oV x).2.1,(oV x).1⟩
  ·exact⟨rfl,rfl,rfl⟩
 unfold Wd.drain
 by_cases hc:(D.setP r i 0).cnt x=0
 ·rw[if_pos hc];exact⟨rfl,rfl,rfl⟩
 ·rw[if_neg hc]
  obtain⟨k1,k2,k3⟩:=key (if(D.setP r i 0).counted r i then(D.setP r i 0).af x else D.setP r i 0)
  refine⟨k1.trans ?_,k2.trans ?_,k3.trans ?_⟩<;>split<;>first|rfl|exact(gD (D:=D.setP r i 0) x).2.2.2.2.2.2|exact(gD (D:=D.setP r i 0) x).2.2.2.2.2.1|exact(gD (D:=D.setP r i 0) x).2.2.2.2.1
theorem Ed(S:San D){l:Int}(h:0<l):D.ahead l=(l-1)*((D.w:Int)-1):=by unfold Wd.ahead;rw[if_pos h]
theorem ahead_zero:D.ahead 0=0:=by unfold Wd.ahead;rw[if_neg (by omega)];omega
theorem San.head(S:San D){q:Nat}{rest:List Nat}(hg:D.grave=q::rest):∃t,t∈D.live∧t.h+1=q∧D.find (q:Int)=some t∧t.mr.dead=true∧NW D.w t∧D.step=D.work q rest t:=by
 obtain⟨t,htl,e⟩:=S.gv q (by rw[hg];simp)
 have hf:D.find (q:Int)=some t:=by have:=S.findIt htl;rwa[show((t.h:Int)+1)=(q:Int) by omega] at this
 have hk:=S.ok t htl
 have hd:t.mr.dead=true:=hk.iff_.2 (by rw[e,hg];simp)
 refine⟨t,htl,e,hf,hd,hk.dead hd,?_⟩
 unfold Wd.step
 rw[hg]
 simp only[hf]
theorem eu(r:Int)(j b:Nat)(k:Int):((D.eU r j b).mark r (fun m=>{m with leaves:=k})).ts=updL r (fun s=>{s with lv:=s.lv.set j (-1),mr:={s.mr with leaves:=k}}) D.ts:=
 wX (f:=fun t=>{t with lv:=t.lv.set j (-1)}) (g:=fun t=>{t with mr:={t.mr with leaves:=k}}) (fun _=>⟨rfl,rfl⟩) D.ts
theorem San.step(S:San D):San D.step:=by
 cases hg:D.grave with
 |nil=>unfold Wd.step;rw[hg];exact S
 |cons q rest=>
  obtain⟨t,htl,e,hf,hd,d,es⟩:=S.head hg
  have hk:=S.ok t htl
  have hw:=S.w
  rw[es]
  unfold Wd.work
  by_cases ha:D.ahead t.mr.leaves<t.mr.left
  ·have h0:0≤D.ahead t.mr.leaves:=by
    unfold Wd.ahead
    refine Int.mul_nonneg ?_ (by omega)
    split<;>omega
   rw[if_pos ha]
   have S1:=S.drain hf (t.mr.left-1).toNat (nth t.pt (t.mr.left-1).toNat)
   obtain⟨f,hf1,k1,k2,k3⟩:=rY hf hd (t.mr.left-1).toNat (nth t.pt (t.mr.left-1).toNat)
   have hw1:=(Jy (D:=D) (r:=(q:Int)) (t.mr.left-1).toNat (nth t.pt (t.mr.left-1).toNat)).1
   have kk:=S1.ok _ (find_live hf1).1
   refine S1.upd (g:=fun s=>{s with mr:={s.mr with left:=t.mr.left-1}}) hf1 (find_at hf1).2.1 rfl rfl rfl rfl ⟨⟨kk.geo.small,kk.geo.big⟩,kk.iff_,fun _=> ?_,fun h=>by rw[show _=true from k1] at h;cases h⟩ (fun b hb=>.inl hb) rfl
   have dd:=kk.dead k1
   refine⟨dd.l0,dd.l1,?_,?_,fun hl=> ?_,dd.there,dd.gone,fun i hi=> ?_⟩
   ·show 0≤t.mr.left-1;omega
   ·show t.mr.left-1≤_
    have:=dd.f1
    have e2:(f t.mr).left=t.mr.left:=k2
    have e3:(f t.mr).left≤((t.pt.set (t.mr.left-1).toNat 0).length:Int):=this
    rw[e2] at e3
    show t.mr.left-1≤((t.pt.set (t.mr.left-1).toNat 0).length:Int)
    omega
   ·have h1:=dd.fl hl
    have h2:(f t.mr).left≤(f t.mr).leaves*(((D.drain (q:Int) (t.mr.left-1).toNat (nth t.pt (t.mr.left-1).toNat)).w:Int)-1):=h1
    rw[k2] at h2
    show t.mr.left-1≤(f t.mr).leaves*_
    omega
   ·have hi':t.mr.left-1≤(i:Int):=hi
    show nth (t.pt.set (t.mr.left-1).toNat 0) i=0
    by_cases ei:(t.mr.left-1).toNat=i
    ·rw[ei]
     by_cases hlt:i<t.pt.length
     ·rw[av hlt]
     ·rw[aY (by simp;omega)]
    ·rw[aa ei]
     exact d.zero i (by omega)
  ·rw[if_neg ha]
   by_cases hl:0<t.mr.leaves
   ·rw[if_pos hl]
    have hp:bg t=1+t.mr.leaves.toNat:=by unfold bg;rw[hd,if_pos rfl]
    have hlen:((t.mr.leaves-1).toNat:Nat)<t.lv.length:=by have:=d.l1;omega
    have hfl:t.mr.left≤(t.mr.leaves-1)*((D.w:Int)-1):=by rw[←Ed S hl];omega
    refine S.upd (g:=fun s=>{s with lv:=s.lv.set (t.mr.leaves-1).toNat (-1),mr:={s.mr with leaves:=t.mr.leaves-1}}) hf (find_at hf).2.1 rfl (eu _ _ _ _) rfl rfl ⟨⟨fun h=> ?_,fun h=> ?_⟩,hk.iff_,fun _=>⟨?_,?_,d.f0,d.f1,fun _=>hfl,fun j hj=> ?_,fun j hj hj2=> ?_,d.zero⟩,fun h=>by rw[show _=true from hd] at h;cases h⟩ (fun b hb=>.inl hb) ?_
    ·have:=hk.geo.small h
     rw[this] at hlen
     simp at hlen
    ·have:=hk.geo.big h
     refine⟨?_,by simpa using this.2⟩
     show t.lv.set (t.mr.leaves-1).toNat (-1)≠[]
     intro hx
     have:=congrArg List.length hx
     simp at this
     rw[this] at hlen
     simp at hlen
    ·show 0≤t.mr.leaves-1;omega
    ·show t.mr.leaves-1≤((t.lv.set (t.mr.leaves-1).toNat (-1)).length:Int)
     have:=d.l1
     simp
     omega
    ·have hj':(j:Int)<t.mr.leaves-1:=hj
     show ∃b:Nat,(t.lv.set (t.mr.leaves-1).toNat (-1))[j]? =some (b:Int)
     rw[List.getElem?_set_ne (by omega)]
     exact d.there j (by omega)
    ·have hj':t.mr.leaves-1≤(j:Int):=hj
     have hj2':j<t.lv.length:=by simpa using hj2
     show(t.lv.set (t.mr.leaves-1).toNat (-1))[j]? =some (-1)
     by_cases ej:(t.mr.leaves-1).toNat=j
     ·rw[ej,List.getElem?_set_self hj2']
     ·rw[List.getElem?_set_ne ej]
      exact d.gone j (by omega) hj2'
    ·have hp2:bg ({t with lv:=t.lv.set (t.mr.leaves-1).toNat (-1),mr:={t.mr with leaves:=t.mr.leaves-1}})=1+(t.mr.leaves-1).toNat:=by
      unfold bg
      simp[hd]
     show D.pending-1+(bg t:Int)=D.pending+(bg ({t with lv:=t.lv.set (t.mr.leaves-1).toNat (-1),mr:={t.mr with leaves:=t.mr.leaves-1}}):Int)
     rw[hp,hp2]
     omega
   ·rw[if_neg hl]
    have hl0:t.mr.leaves=0:=by have:=d.l0;omega
    have hlive:(({D with grave:=rest}:Wd).eZ (q:Int) t.h).live=D.live.filter (fun s=>s.h !=t.h):=bE (g:=fun s=>{s with ended:=true}) (fun _=>rfl) S.nd hf
    have hmem:∀s,s∈D.live.filter (fun s=>s.h !=t.h)→s∈D.live∧s.h≠t.h:=fun s hs=>by
     have:=List.mem_filter.1 hs
     exact⟨this.1,by simpa using this.2⟩
    have hnd:=S.gd
    rw[hg,List.nodup_cons] at hnd
    have hsum:=oI (φ:=bg) (g:=fun s=>{s with ended:=true}) hf rfl
    have hp:bg t=1:=by unfold bg;rw[hd,if_pos rfl,hl0];rfl
    show San {({D with grave:=rest}:Wd).eZ (q:Int) t.h with pending:=D.pending-1}
    refine⟨S.w,?_,hnd.2,fun g hg'=> ?_,fun s hs=> ?_,fun s hs hr=> ?_,?_⟩
    ·show((({D with grave:=rest}:Wd).eZ (q:Int) t.h).live.map Th.h).Nodup
     rw[hlive]
     exact S.nd.sublist (List.Sublist.map _ List.filter_sublist)
    ·obtain⟨u,hu,e2⟩:=S.gv g (by rw[hg];exact List.mem_cons_of_mem _ hg')
     refine⟨u,?_,e2⟩
     show u∈(({D with grave:=rest}:Wd).eZ (q:Int) t.h).live
     rw[hlive]
     refine List.mem_filter.2 ⟨hu,?_⟩
     have:u.h≠t.h:=fun ex=>hnd.1 (by rw[←e,←ex,e2];exact hg')
     simpa using this
    ·have hs':s∈(({D with grave:=rest}:Wd).eZ (q:Int) t.h).live:=hs
     rw[hlive] at hs'
     obtain⟨h1,h2⟩:=hmem s hs'
     have k:=S.ok s h1
     refine⟨k.geo,?_,k.dead,k.alive⟩
     show s.mr.dead=true↔s.h+1∈rest
     rw[k.iff_,hg,List.mem_cons]
     exact⟨fun h=>by rcases h with h|h;exact absurd (by omega) h2;exact h,fun h=>.inr h⟩
    ·have hs':s∈(({D with grave:=rest}:Wd).eZ (q:Int) t.h).live:=hs
     rw[hlive] at hs'
     exact S.ring s (hmem s hs').1 hr
    ·show D.pending-1=(sumL bg (updL (q:Int) (fun s=>{s with ended:=true}) D.ts):Int)
     have:=S.pend
     omega
end
def cntL(y:Int):List Int→Nat
 |[]=>0
 |a::l=>(if a=y then 1 else 0)+cntL y l
theorem nK(y x:Int):∀(l:List Int) (i:Nat),i<l.length→cntL y (l.set i x)+(if nth l i=y then 1 else 0)=cntL y l+(if x=y then 1 else 0)
 |[],i,h=>by simp at h
 |a::l,0,_=>by
  show(if x=y then 1 else 0)+cntL y l+(if a=y then 1 else 0)=(if a=y then 1 else 0)+cntL y l+(if x=y then 1 else 0)
  omega
 |a::l,i+1,h=>by
  have:=nK y x l i (by simpa using h)
  show(if a=y then 1 else 0)+cntL y (l.set i x)+(if nth l i=y then 1 else 0)=(if a=y then 1 else 0)+cntL y l+(if x=y then 1 else 0)
  omega
theorem yX{y:Int}:∀{l:List Int} {i:Nat},i<l.length→nth l i=y→1≤cntL y l
 |[],i,h,_=>by simp at h
 |a::l,0,_,e=>by
  have:a=y:=e
  unfold cntL
  rw[if_pos this]
  omega
 |a::l,i+1,h,e=>by
  have:=yX (l:=l) (i:=i) (by simpa using h) e
  unfold cntL
  omega
theorem pg{y:Int}(hy:y≠0):∀{l:List Int},(∀i,nth l i=0)→cntL y l=0
 |[],_=>rfl
 |a::l,h=>by
  have h0:a=0:=h 0
  unfold cntL
  rw[if_neg (by omega),pg hy (fun i=>h (i+1))]
def nmT(y:Int)(t:Th):Nat:=cntL y t.pt
structure Nam (hold:Nat→Nat) (D:Wd):Prop where
 cnt:∀t,t∈D.live→t.mr.refs=((hold t.h+sumL (nmT ((t.h:Int)+1)) D.ts:Nat):Int)
 good:∀t,t∈D.live→∀i,i<t.pt.length→nth t.pt i=0∨∃u,u∈D.live∧(u.h:Int)+1=nth t.pt i
 zer:∀t,t∈D.live→t.mr.dead=true→t.mr.refs=0
section
variable {D D':Wd} {r:Int} {t s u:Th} {hold:Nat→Nat}
theorem Nam.of(N:Nam hold D)(h1:∀s,s∈D'.live→∃u,u∈D.live∧s.h=u.h∧s.mr.refs=u.mr.refs∧s.pt=u.pt∧(s.mr.dead=true→u.mr.dead=true∨u.mr.refs=0))(h2:D'.live.map Th.h=D.live.map Th.h)(h3:∀y,sumL (nmT y) D'.ts=sumL (nmT y) D.ts):Nam hold D':=by
 refine⟨fun s hs=> ?_,fun s hs i hi=> ?_,fun s hs hd=> ?_⟩
 ·obtain⟨u,hu,e1,e2,e3,e4⟩:=h1 s hs
  rw[e1,e2,h3]
  exact N.cnt u hu
 ·obtain⟨u,hu,e1,e2,e3,e4⟩:=h1 s hs
  rw[e3] at hi ⊢
  rcases N.good u hu i hi with h|⟨v,hv,h⟩
  ·exact .inl h
  ·obtain⟨v',k1,k2⟩:=live_of_heads h2 hv
   exact .inr ⟨v',k1,by rw[k2];exact h⟩
 ·obtain⟨u,hu,e1,e2,e3,e4⟩:=h1 s hs
  rw[e2]
  rcases e4 hd with h|h
  ·exact N.zer u hu h
  ·exact h
theorem aP(r:Int)(f:Mrk→Mrk):(D.mark r f).live.map Th.h=D.live.map Th.h:=by
 cases hf:D.find r with
 |none=>rw[mark_none f hf]
 |some t=>exact bL (g:=fun t=>{t with mr:=f t.mr}) hf (find_at hf).2.1 rfl
theorem mD(S:San D){f:Mrk→Mrk}(hs:s∈(D.mark r f).live):∃u,u∈D.live∧(s=u∨s={u with mr:=f u.mr}):=by
 cases hf:D.find r with
 |none=>rw[mark_none f hf] at hs;exact⟨s,hs,.inl rfl⟩
 |some t=>
  rcases aH (g:=fun t=>{t with mr:=f t.mr}) S.nd hf hs with rfl|⟨h,_⟩
  ·exact⟨t,(find_live hf).1,.inr rfl⟩
  ·exact⟨s,h,.inl rfl⟩
theorem Nam.mark(N:Nam hold D)(S:San D)(r:Int){f:Mrk→Mrk}(h1:∀m,(f m).refs=m.refs)(h2:∀m,(f m).dead=m.dead):Nam hold (D.mark r f):=by
 refine N.of (fun s hs=> ?_) (aP r f) (fun y=>sumL_mark r (fun t=>rfl))
 obtain⟨u,hu,rfl|rfl⟩:=mD S hs
 ·exact⟨s,hu,rfl,rfl,rfl,fun h=>.inl h⟩
 ·exact⟨u,hu,rfl,h1 _,rfl,fun h=>.inl (by rw[←h2];exact h)⟩
theorem Nam.bury(N:Nam hold D)(S:San D){x:Int}(h0:D.cnt x=0):Nam hold (D.bury x):=by
 cases hf:D.find x with
 |none=>rw[show D.bury x=D by unfold Wd.bury;rw[hf]];exact N
 |some t=>
  have hr:t.mr.refs=0:=by unfold Wd.cnt at h0;rw[hf] at h0;exact h0
  have hsum:∀y,sumL (nmT y) (D.bury x).ts=sumL (nmT y) D.ts:=fun y=>EX x (fun t _=>rfl)
  cases hd:t.mr.dead with
  |true=>rw[show D.bury x=D by unfold Wd.bury;rw[hf];simp[hd]];exact N
  |false=>
   have eb:D.bury x=D.lay x t:=by unfold Wd.bury;rw[hf];simp[hd]
   rw[eb] at hsum ⊢
   have hts:=lay_ts (D:=D) x t
   refine N.of (fun s hs=> ?_) ?_ hsum
   ·unfold Wd.live at hs
    rw[hts] at hs
    rcases aH (g:=fun s=>{s with mr:={s.mr with dead:=true,left:=(t.pt.length:Int),leaves:=(t.lv.length:Int)}}) S.nd hf hs with rfl|⟨h,_⟩
    ·exact⟨t,(find_live hf).1,rfl,rfl,rfl,fun _=>.inr hr⟩
    ·exact⟨s,h,rfl,rfl,rfl,fun h=>.inl h⟩
   ·unfold Wd.live
    rw[hts]
    exact bL (g:=fun s=>{s with mr:={s.mr with dead:=true,left:=(t.pt.length:Int),leaves:=(t.lv.length:Int)}}) hf (find_at hf).2.1 rfl
theorem Nam.inter(N:Nam hold D)(S:San D)(x:Int):Nam hold (D.inter x):=by
 unfold Wd.inter
 split
 ·rename_i h;exact N.bury S h
 ·exact N
structure qU (hold:Nat→Nat) (x:Int) (D:Wd):Prop where
 cnt:∀t,t∈D.live→t.mr.refs=((hold t.h+sumL (nmT ((t.h:Int)+1)) D.ts+(if(t.h:Int)+1=x then 1 else 0):Nat):Int)
 good:∀t,t∈D.live→∀i,i<t.pt.length→nth t.pt i=0∨∃u,u∈D.live∧(u.h:Int)+1=nth t.pt i
 zer:∀t,t∈D.live→t.mr.dead=true→t.mr.refs=0
 there:x=0∨∃u,u∈D.live∧(u.h:Int)+1=x
theorem qU.mark{x:Int}(N:qU hold x D)(S:San D)(r:Int){f:Mrk→Mrk}(h1:∀m,(f m).refs=m.refs)(h2:∀m,(f m).dead=m.dead):qU hold x (D.mark r f):=by
 have hsum:∀y,sumL (nmT y) (D.mark r f).ts=sumL (nmT y) D.ts:=fun y=>sumL_mark r (fun t=>rfl)
 refine⟨fun s hs=> ?_,fun s hs i hi=> ?_,fun s hs hd=> ?_,?_⟩
 ·rw[hsum]
  obtain⟨u,hu,rfl|rfl⟩:=mD S hs
  ·exact N.cnt s hu
  ·show(f u.mr).refs=_;rw[h1];exact N.cnt u hu
 ·have:∃u,u∈D.live∧s.pt=u.pt:=by
   obtain⟨u,hu,rfl|rfl⟩:=mD S hs
   ·exact⟨s,hu,rfl⟩
   ·exact⟨u,hu,rfl⟩
  obtain⟨u,hu,e⟩:=this
  rw[e] at hi ⊢
  rcases N.good u hu i hi with h|⟨v,hv,h⟩
  ·exact .inl h
  ·obtain⟨v',k1,k2⟩:=live_of_heads (aP r f) hv
   exact .inr ⟨v',k1,by rw[k2];exact h⟩
 ·obtain⟨u,hu,rfl|rfl⟩:=mD S hs
  ·exact N.zer s hu hd
  ·show(f u.mr).refs=0
   rw[h1]
   exact N.zer u hu (by rw[←h2];exact hd)
 ·rcases N.there with h|⟨u,hu,h⟩
  ·exact .inl h
  ·obtain⟨v',k1,k2⟩:=live_of_heads (aP r f) hu
   exact .inr ⟨v',k1,by rw[k2];exact h⟩
theorem Nam.clear(N:Nam hold D)(S:San D)(hf:D.find r=some t){i:Nat}(hi:i<t.pt.length):qU hold (nth t.pt i) (D.setP r i 0):=by
 have htl:=(find_live hf).1
 have hsum:∀y:Int,y≠0→sumL (nmT y) (D.setP r i 0).ts+(if nth t.pt i=y then 1 else 0)=sumL (nmT y) D.ts:=fun y hy=>by
  have h1:=qd (φ:=nmT y) hf i 0
  have h2:=nK y 0 t.pt i hi
  rw[if_neg (Ne.symm hy)] at h2
  have h3:nmT y {t with pt:=t.pt.set i 0}=cntL y (t.pt.set i 0):=rfl
  have h4:nmT y t=cntL y t.pt:=rfl
  omega
 have hheads:(D.setP r i 0).live.map Th.h=D.live.map Th.h:=bL (g:=fun t=>{t with pt:=t.pt.set i 0}) hf (find_at hf).2.1 rfl
 have hmem:∀s,s∈(D.setP r i 0).live→s={t with pt:=t.pt.set i 0}∨(s∈D.live∧s.h≠t.h):=fun s hs=>aH S.nd hf hs
 have hb:∀s,s∈(D.setP r i 0).live→∃u,u∈D.live∧s.h=u.h∧s.mr=u.mr:=fun s hs=>by
  rcases hmem s hs with rfl|⟨h,_⟩
  ·exact⟨t,htl,rfl,rfl⟩
  ·exact⟨s,h,rfl,rfl⟩
 refine⟨fun s hs=> ?_,fun s hs j hj=> ?_,fun s hs hd=> ?_,?_⟩
 ·obtain⟨u,hu,e1,e2⟩:=hb s hs
  have h1:=N.cnt u hu
  have h2:=hsum ((u.h:Int)+1) (by omega)
  rw[e1,e2,h1]
  have e:(if nth t.pt i=(u.h:Int)+1 then 1 else 0)=(if(u.h:Int)+1=nth t.pt i then 1 else 0):=by
   by_cases h:nth t.pt i=(u.h:Int)+1
   ·rw[if_pos h,if_pos h.symm]
   ·rw[if_neg h,if_neg (fun x=>h x.symm)]
  rw[e] at h2
  omega
 ·rcases hmem s hs with rfl|⟨h,_⟩
  ·show nth (t.pt.set i 0) j=0∨∃u:Th,u∈(D.setP r i 0).live∧(u.h:Int)+1=nth (t.pt.set i 0) j
   by_cases e:i=j
   ·subst e
    rw[av hi]
    exact .inl rfl
   ·rw[aa e]
    rcases N.good t htl j (by simpa using hj) with h|⟨v,hv,h⟩
    ·exact .inl h
    ·obtain⟨v',k1,k2⟩:=live_of_heads hheads hv
     exact .inr ⟨v',k1,by rw[k2];exact h⟩
  ·rcases N.good s h j hj with h|⟨v,hv,h⟩
   ·exact .inl h
   ·obtain⟨v',k1,k2⟩:=live_of_heads hheads hv
    exact .inr ⟨v',k1,by rw[k2];exact h⟩
 ·obtain⟨u,hu,e1,e2⟩:=hb s hs
  rw[e2] at hd ⊢
  exact N.zer u hu hd
 ·rcases N.good t htl i hi with h|⟨v,hv,h⟩
  ·exact .inl h
  ·obtain⟨v',k1,k2⟩:=live_of_heads hheads hv
   exact .inr ⟨v',k1,by rw[k2];exact h⟩
theorem qU.none(N:qU hold 0 D):Nam hold D:=⟨fun t ht=>by have:=N.cnt t ht;rw[if_neg (by omega)] at this;simpa using this,N.good,N.zer⟩
theorem qU.down{x:Int}(N:qU hold x D)(S:San D):Nam hold (D.down x):=by
 have hsum:∀y,sumL (nmT y) (D.down x).ts=sumL (nmT y) D.ts:=fun y=>sumL_mark x (fun t=>rfl)
 have hh:=aP (D:=D) x (fun m=>{m with refs:=m.refs-1})
 cases hf:D.find x with
 |none=>
  have e:D.down x=D:=mark_none _ hf
  rw[e]
  refine⟨fun t ht=> ?_,N.good,N.zer⟩
  have:=N.cnt t ht
  rw[if_neg (fun h=>by have:=S.findIt ht;rw[h,hf] at this;cases this)] at this
  simpa using this
 |some t=>
  obtain⟨htl,hr⟩:=find_live hf
  have hmem:∀s,s∈(D.down x).live→s={t with mr:={t.mr with refs:=t.mr.refs-1}}∨(s∈D.live∧s.h≠t.h):=fun s hs=>aH (g:=fun t=>{t with mr:={t.mr with refs:=t.mr.refs-1}}) S.nd hf hs
  refine⟨fun s hs=> ?_,fun s hs i hi=> ?_,fun s hs hd=> ?_⟩
  ·rw[hsum]
   rcases hmem s hs with rfl|⟨h,hne⟩
   ·have:=N.cnt t htl
    rw[if_pos hr] at this
    show t.mr.refs-1=((hold t.h+sumL (nmT ((t.h:Int)+1)) D.ts:Nat):Int)
    omega
   ·have:=N.cnt s h
    rw[if_neg (by omega)] at this
    simpa using this
  ·have:∃u,u∈D.live∧s.pt=u.pt:=by
    rcases hmem s hs with rfl|⟨h,_⟩
    ·exact⟨t,htl,rfl⟩
    ·exact⟨s,h,rfl⟩
   obtain⟨u,hu,e⟩:=this
   rw[e] at hi ⊢
   rcases N.good u hu i hi with h|⟨v,hv,h⟩
   ·exact .inl h
   ·obtain⟨v',k1,k2⟩:=live_of_heads hh hv
    exact .inr ⟨v',k1,by rw[k2];exact h⟩
  ·rcases hmem s hs with rfl|⟨h,hne⟩
   ·exfalso
    have h0:=N.zer t htl hd
    have:=N.cnt t htl
    rw[if_pos hr] at this
    omega
   ·exact N.zer s h hd
theorem Nam.drain(N:Nam hold D)(S:San D)(hf:D.find r=some t){i:Nat}(hi:i<t.pt.length):Nam hold (D.drain r i (nth t.pt i)):=by
 have N1:=N.clear S hf hi
 have S1:=S.setP hf i (x:=0) (fun _=>rfl)
 generalize nth t.pt i=x at N1
 unfold Wd.drain
 by_cases hc:(D.setP r i 0).cnt x=0
 ·rw[if_pos hc]
  rcases N1.there with rfl|⟨u,hu,e⟩
  ·exact N1.none
  ·exfalso
   have h1:=N1.cnt u hu
   rw[if_pos e] at h1
   unfold Wd.cnt at hc
   rw[←e,S1.findIt hu] at hc
   simp only at hc
   omega
 ·rw[if_neg hc]
  have key:∀D2:Wd,San D2→qU hold x D2→Nam hold (if(D2.down x).cnt x=0 then(D2.down x).bury x else D2.down x):=fun D2 S2 N2=>by
   split
   ·rename_i h;exact(N2.down S2).bury (S2.down x) h
   ·exact N2.down S2
  have K:San (if(D.setP r i 0).counted r i then(D.setP r i 0).af x else D.setP r i 0)∧qU hold x (if(D.setP r i 0).counted r i then(D.setP r i 0).af x else D.setP r i 0):=by
   split
   ·refine⟨S1.af x,?_⟩
    unfold Wd.af
    split
    ·exact N1.mark S1 x (fun _=>rfl) (fun _=>rfl)
    ·exact N1
   ·exact⟨S1,N1⟩
  exact key _ K.1 K.2
theorem Nam.step(N:Nam hold D)(S:San D):Nam hold D.step:=by
 cases hg:D.grave with
 |nil=>unfold Wd.step;rw[hg];exact N
 |cons q rest=>
  obtain⟨t,htl,e,hf,hd,d,es⟩:=S.head hg
  have hw:=S.w
  rw[es]
  unfold Wd.work
  by_cases ha:D.ahead t.mr.leaves<t.mr.left
  ·have h0:0≤D.ahead t.mr.leaves:=by
    unfold Wd.ahead
    refine Int.mul_nonneg ?_ (by omega)
    split<;>omega
   rw[if_pos ha]
   have hi:(t.mr.left-1).toNat<t.pt.length:=by have:=d.f1;omega
   exact(N.drain S hf hi).mark (S.drain hf _ _) _ (fun _=>rfl) (fun _=>rfl)
  ·rw[if_neg ha]
   by_cases hl:0<t.mr.leaves
   ·rw[if_pos hl]
    refine N.of (fun s hs=> ?_) ?_ (fun y=> ?_)
    ·unfold Wd.live at hs
     have hs':s∈liveL ((D.eU (q:Int) (t.mr.leaves-1).toNat (nth t.lv (t.mr.leaves-1).toNat).toNat).mark (q:Int) (fun m=>{m with leaves:=t.mr.leaves-1})).ts:=hs
     rw[eu] at hs'
     rcases aH (g:=fun s=>{s with lv:=s.lv.set (t.mr.leaves-1).toNat (-1),mr:={s.mr with leaves:=t.mr.leaves-1}}) S.nd hf hs' with rfl|⟨h,_⟩
     ·exact⟨t,htl,rfl,rfl,rfl,fun _=>.inl hd⟩
     ·exact⟨s,h,rfl,rfl,rfl,fun h=>.inl h⟩
    ·show(liveL ((D.eU (q:Int) (t.mr.leaves-1).toNat (nth t.lv (t.mr.leaves-1).toNat).toNat).mark (q:Int) (fun m=>{m with leaves:=t.mr.leaves-1})).ts).map Th.h=_
     rw[eu]
     exact bL (g:=fun s=>{s with lv:=s.lv.set (t.mr.leaves-1).toNat (-1),mr:={s.mr with leaves:=t.mr.leaves-1}}) hf (find_at hf).2.1 rfl
    ·show sumL (nmT y) ((D.eU (q:Int) (t.mr.leaves-1).toNat (nth t.lv (t.mr.leaves-1).toNat).toNat).mark (q:Int) (fun m=>{m with leaves:=t.mr.leaves-1})).ts=_
     rw[eu]
     have h2:=sumL_upd (φ:=nmT y) (g:=fun s=>{s with lv:=s.lv.set (t.mr.leaves-1).toNat (-1),mr:={s.mr with leaves:=t.mr.leaves-1}}) hf (find_at hf).2.1
     have h3:nmT y {t with lv:=t.lv.set (t.mr.leaves-1).toNat (-1),mr:={t.mr with leaves:=t.mr.leaves-1}}=nmT y t:=rfl
     have h2:_+nmT y t=_+nmT y {t with lv:=t.lv.set (t.mr.leaves-1).toNat (-1),mr:={t.mr with leaves:=t.mr.leaves-1}}:=h2
     omega
   ·rw[if_neg hl]
    have hl0:t.mr.leaves=0:=by have:=d.l0;omega
    have hleft:t.mr.left=0:=by rw[hl0,ahead_zero] at ha;have:=d.f0;omega
    have hz:∀i,nth t.pt i=0:=fun i=>d.zero i (by omega)
    have hlive:(({D with grave:=rest}:Wd).eZ (q:Int) t.h).live=D.live.filter (fun s=>s.h !=t.h):=bE (g:=fun s=>{s with ended:=true}) (fun _=>rfl) S.nd hf
    have hmem:∀s,s∈D.live.filter (fun s=>s.h !=t.h)→s∈D.live∧s.h≠t.h:=fun s hs=>by
     have:=List.mem_filter.1 hs
     exact⟨this.1,by simpa using this.2⟩
    have hsum:∀y:Int,y≠0→sumL (nmT y) (updL (q:Int) (fun s=>{s with ended:=true}) D.ts)=sumL (nmT y) D.ts:=fun y hy=>by
     have:=oI (φ:=nmT y) (g:=fun s=>{s with ended:=true}) hf rfl
     have h0:nmT y t=0:=pg hy hz
     omega
    have hnone:∀s,s∈D.live→∀i,i<s.pt.length→nth s.pt i≠(t.h:Int)+1:=fun s hs i hi e2=>by
     have h1:=N.cnt t htl
     rw[N.zer t htl hd] at h1
     have h2:=oJ (φ:=nmT ((t.h:Int)+1)) hs
     have h3:1≤nmT ((t.h:Int)+1) s:=yX hi e2
     have h4:nmT ((t.h:Int)+1) s≤sumL (nmT ((t.h:Int)+1)) D.ts:=h2
     omega
    show Nam hold {({D with grave:=rest}:Wd).eZ (q:Int) t.h with pending:=D.pending-1}
    refine⟨fun s hs=> ?_,fun s hs i hi=> ?_,fun s hs hds=> ?_⟩
    ·have hs':s∈(({D with grave:=rest}:Wd).eZ (q:Int) t.h).live:=hs
     rw[hlive] at hs'
     have:=N.cnt s (hmem s hs').1
     rw[this]
     show _=((hold s.h+sumL (nmT ((s.h:Int)+1)) (updL (q:Int) (fun s=>{s with ended:=true}) D.ts):Nat):Int)
     rw[hsum _ (by omega)]
    ·have hs':s∈(({D with grave:=rest}:Wd).eZ (q:Int) t.h).live:=hs
     rw[hlive] at hs'
     have h1:=(hmem s hs').1
     rcases N.good s h1 i hi with h|⟨v,hv,h⟩
     ·exact .inl h
     ·refine .inr ⟨v,?_,h⟩
      show v∈(({D with grave:=rest}:Wd).eZ (q:Int) t.h).live
      rw[hlive]
      refine List.mem_filter.2 ⟨hv,?_⟩
      have:v.h≠t.h:=fun ex=>hnone s h1 i hi (by rw[←h,ex])
      simpa using this
    ·have hs':s∈(({D with grave:=rest}:Wd).eZ (q:Int) t.h).live:=hs
     rw[hlive] at hs'
     exact N.zer s (hmem s hs').1 hds
end
theorem San.new(n:Nat){w:Nat}(h:16≤w):San (Wd.new n w):=⟨h,by simp[Wd.live,Wd.new,liveL],by simp[Wd.new],fun g hg=>absurd hg (by simp[Wd.new]),fun t ht=>absurd ht (by simp[Wd.live,Wd.new,liveL]),fun t ht=>absurd ht (by simp[Wd.live,Wd.new,liveL]),rfl⟩
theorem jy{φ:Th→Nat}:∀(l k:List Th),sumL φ (l++k)=sumL φ l+sumL φ k
 |[],k=>by simp[sumL,liveL]
 |u::l,k=>by rw[List.cons_append,sumL_cons,sumL_cons,jy l k];omega
theorem ai.geo{c:Cf}{zs:List Int}{D:Wd}{t:Th}(R:ai c zs D)(hm:c.May)(ht:t∈D.live):Geo D.w t:=by
 have hA:=R.heap.obs t.ob (R.obMem ht)
 have hw:=hm.w
 have hW:=R.w
 have ef:t.ob.f=t.pt.length+t.dt.length:=rfl
 have el:t.ob.lv.length=t.lv.length:=by unfold Th.ob;simp
 refine⟨fun h=> ?_,fun h=> ?_⟩
 ·have:=hA.small (by rw[ef];rw[hW] at h;exact h) hm
  have h2:t.lv.length=0:=by rw[←el,this];rfl
  exact List.length_eq_zero_iff.1 h2
 ·have hb:¬t.ob.f≤c.W-8:=by rw[ef];rw[hW] at h;exact h
  have hl:=hA.lvs
  obtain⟨_,_,h3,_⟩:=ky (W:=c.W) (n:=t.ob.f) (by omega) (by omega) (by omega) hA.size
  rw[←hl] at h3
  have h4:t.ob.f≤t.ob.lv.length*(c.W-1):=by
   have:((t.ob.lv.length*(c.W-1):Nat):Int)=(t.ob.lv.length:Int)*((c.W:Int)-1):=by rw[Int.natCast_mul];congr 1;omega
   omega
  rw[el,ef] at h4
  refine⟨fun e=> ?_,by rw[hW];exact h4⟩
  have h5:t.lv.length=0:=by rw[e];rfl
  rw[h5,Nat.zero_mul] at h4
  omega
theorem San.made{c:Cf}{zs:List Int}{D:Wd}{b np nd:Nat}{ls cl:List Nat}(S:San D)(R:ai c zs (D.made b ls cl np nd))(hm:c.May):San (D.made b ls cl np nd):=by
 have hlive:=live_made (D:=D) (b:=b) (ls:=ls) (cl:=cl) (np:=np) (nd:=nd)
 have hg:(D.made b ls cl np nd).grave=D.grave:=rfl
 have hmem:∀t,t∈D.live→t∈(D.made b ls cl np nd).live:=fun t ht=>by rw[hlive];exact List.mem_append_left _ ht
 have hnew:(⟨b,ints ls,zer np,zer nd,false,Mrk.new⟩:Th)∈(D.made b ls cl np nd).live:=by rw[hlive];simp
 refine⟨S.w,R.nodup,S.gd,fun g hg=> ?_,fun t ht=> ?_,fun t ht hr=> ?_,?_⟩
 ·obtain⟨u,hu,e⟩:=S.gv g hg
  exact⟨u,hmem u hu,e⟩
 ·have hgeo:=R.geo hm ht
  rw[hlive] at ht
  rcases List.mem_append.1 ht with h|h
  ·have k:=S.ok t h
   exact⟨hgeo,k.iff_,k.dead,k.alive⟩
  ·obtain rfl:=List.mem_singleton.1 h
   refine⟨hgeo,⟨fun h=>(by cases h),fun h=> ?_⟩,fun h=>(by cases h),fun _ j hj=> ?_⟩
   ·have:=(R.bur _ hnew h).1
    exact this
   ·have hj':j<ls.length:=by simpa[ints] using hj
    exact⟨ls[j],by show(ints ls)[j]? =_;unfold ints;simp[hj']⟩
 ·rw[hlive] at ht
  rcases List.mem_append.1 ht with h|h
  ·exact S.ring t h hr
  ·obtain rfl:=List.mem_singleton.1 h
   rfl
 ·have h1:=S.pend
  have h2:sumL bg (D.ts++[(⟨b,ints ls,zer np,zer nd,false,Mrk.new⟩:Th)])=sumL bg D.ts:=by
   rw[jy,sumL_cons]
   simp[bg,Mrk.new,sumL,liveL]
  show D.pending=(sumL bg (D.ts++[_]):Int)
  rw[h1,h2]
theorem San.mkD{c:Cf}{D:Wd}{x y:Int}(S:San D){w wr:World}{p:Pl}(h:RSt w p c (D.mkD x y) wr):San (D.mkD x y):=by
 obtain⟨zs,m,hG,hR,hp,hB⟩:=h
 unfold Wd.mkD at hR ⊢
 split
 ·rename_i h0
  rw[if_pos h0] at hR
  exact S.made hR hG.may
 ·exact S
section
variable {D D':Wd} {r x:Int} {t s u:Th} {g:Th→Th} {f:Mrk→Mrk} {hold:Nat→Nat} {φ:Th→Nat} {c:Cf} {zs:List Int}
theorem mI(hg:∀t,(g t).h=t.h)(r:Int):∀l:List Th,(updL r g l).map Th.h=l.map Th.h
 |[]=>rfl
 |u::l=>by
  unfold updL
  split
  ·simp[hg]
  ·simp[mI hg r l]
theorem dP(r:Int)(f:Mrk→Mrk):(D.mark r f).ts.map Th.h=D.ts.map Th.h:=mI (g:=fun t=>{t with mr:=f t.mr}) (fun _=>rfl) r D.ts
theorem oC(r:Int)(i:Nat)(x:Int):(D.setP r i x).ts.map Th.h=D.ts.map Th.h:=mI (g:=fun t=>{t with pt:=t.pt.set i x}) (fun _=>rfl) r D.ts
theorem Df(x:Int):(D.bury x).ts.map Th.h=D.ts.map Th.h:=by
 unfold Wd.bury
 cases D.find x with
 |none=>rfl
 |some t=>
  simp only
  split
  ·rfl
  ·rw[lay_ts]
   exact mI (g:=fun s=>{s with mr:={s.mr with dead:=true,left:=(t.pt.length:Int),leaves:=(t.lv.length:Int)}}) (fun _=>rfl) x D.ts
theorem inter_hd(x:Int):(D.inter x).ts.map Th.h=D.ts.map Th.h:=by
 unfold Wd.inter
 split
 ·exact Df x
 ·rfl
theorem BO(x:Int):(D.af x).ts.map Th.h=D.ts.map Th.h:=by
 unfold Wd.af
 split
 ·exact dP x _
 ·rfl
theorem Gq(r:Int)(i:Nat)(x:Int):(D.drain r i x).ts.map Th.h=D.ts.map Th.h:=by
 have key:∀D2:Wd,D2.ts.map Th.h=D.ts.map Th.h→(if(D2.down x).cnt x=0 then(D2.down x).bury x else D2.down x).ts.map Th.h=D.ts.map Th.h:=fun D2 h=>by
  split
  ·rw[Df];exact(dP x _).trans h
  ·exact(dP x _).trans h
 unfold Wd.drain
 by_cases hc:(D.setP r i 0).cnt x=0
 ·rw[if_pos hc];exact oC r i 0
 ·rw[if_neg hc]
  refine key _ ?_
  split
  ·rw[BO];exact oC r i 0
  ·exact oC r i 0
theorem yg:D.step.ts.map Th.h=D.ts.map Th.h:=by
 unfold Wd.step
 split
 ·rfl
 ·split
  ·rfl
  ·rename_i _ q rest _ _ t _
   unfold Wd.work
   split
   ·exact(dP _ _).trans (Gq _ _ _)
   ·split
    ·show((D.eU (q:Int) (t.mr.leaves-1).toNat (nth t.lv (t.mr.leaves-1).toNat).toNat).mark (q:Int) (fun m=>{m with leaves:=t.mr.leaves-1})).ts.map Th.h=_
     rw[dP]
     exact mI (g:=fun s=>{s with lv:=s.lv.set (t.mr.leaves-1).toNat (-1)}) (fun _=>rfl) _ D.ts
    ·exact mI (g:=fun s=>{s with ended:=true}) (fun _=>rfl) _ D.ts
theorem nM{h:Nat}:∀{l:List Th},(∀u,u∈l→u.h≠h)→findL ((h:Int)+1) l=none
 |[],_=>rfl
 |u::l,hn=>by
  unfold findL
  have h1:u.at ((h:Int)+1)=false:=by
   have:=hn u (by simp)
   unfold Th.at
   simp
   intro _ e
   omega
  rw[h1]
  exact nM (fun v hv=>hn v (List.mem_cons_of_mem _ hv))
theorem find_ts:∀{l:List Th},(l.map Th.h).Nodup→t∈l→findL ((t.h:Int)+1) l=if t.ended then none else some t
 |[],_,h=>by simp at h
 |u::l,hn,h=>by
  rw[List.map_cons,List.nodup_cons] at hn
  have hne:∀v,v∈l→v.h≠u.h:=fun v hv e=>hn.1 (e▸List.mem_map.2 ⟨v,hv,rfl⟩)
  rcases List.mem_cons.1 h with rfl|h
  ·unfold findL
   cases he:t.ended with
   |true=>
    have:t.at ((t.h:Int)+1)=false:=by unfold Th.at;simp[he]
    rw[this]
    simpa using nM hne
   |false=>
    have:t.at ((t.h:Int)+1)=true:=by unfold Th.at;simp[he]
    rw[this]
    simp
  ·have hut:=hne t h
   have:u.at ((t.h:Int)+1)=false:=by unfold Th.at;simp;intro _ e;omega
   unfold findL
   rw[this]
   exact find_ts hn.2 h
def atD(φ:Th→Nat)(D:Wd)(r:Int):Nat:=match D.find r with|none=>0|some t=>φ t
def Wd.allR(D:Wd):List Int:=D.ts.map (fun t=>(t.h:Int)+1)
theorem refs_hd(h:D'.ts.map Th.h=D.ts.map Th.h):D'.allR=D.allR:=by
 have e:∀E:Wd,E.allR=(E.ts.map Th.h).map (fun h:Nat=>(h:Int)+1):=fun E=>by unfold Wd.allR;rw[List.map_map];rfl
 rw[e,e,h]
theorem DV:∀l:List Th,sumL φ l=(l.map (fun t=>if t.ended then 0 else φ t)).sum
 |[]=>rfl
 |u::l=>by rw[sumL_cons,DV l];simp
def sumK(f:Int→Nat)(l:List Int)(k:Nat):Nat:=((l.take k).map f).sum
theorem sum_refs(hn:(D.ts.map Th.h).Nodup)(φ:Th→Nat):sumK (atD φ D) D.allR D.allR.length=sumL φ D.ts:=by
 unfold sumK
 rw[List.take_length,DV]
 unfold Wd.allR
 rw[List.map_map]
 congr 1
 refine List.map_congr_left (fun t ht=> ?_)
 show atD φ D ((t.h:Int)+1)=_
 unfold atD
 rw[show D.find ((t.h:Int)+1)=if t.ended then none else some t from find_ts hn ht]
 cases t.ended<;>rfl
theorem oZ{y:Int}:∀{l:List Int},(∀i,i<l.length→nth l i≠y)→cntL y l=0
 |[],_=>rfl
 |a::l,h=>by
  have h0:a≠y:=h 0 (by simp)
  unfold cntL
  rw[if_neg h0,oZ (fun i hi=>h (i+1) (by simpa using hi))]
theorem sumL_none:∀{l:List Th},(∀t,t∈liveL l→φ t=0)→sumL φ l=0
 |[],_=>rfl
 |u::l,h=>by
  rw[sumL_cons,sumL_none (fun t ht=>h t (by rw[live_cons];split;exact ht;exact List.mem_cons_of_mem _ ht))]
  cases hu:u.ended with
  |true=>simp
  |false=>simp;exact h u (by rw[live_cons,hu];simp)
theorem oh(n i:Nat):nth (zer n) i=0:=by
 unfold nth zer
 rw[List.getD_eq_getElem?_getD]
 by_cases h:i<n
 ·simp[h]
 ·simp[h]
theorem zH{b np nd:Nat}{ls cl:List Nat}{y:Int}(hy:y≠0):sumL (nmT y) (D.made b ls cl np nd).ts=sumL (nmT y) D.ts:=by
 show sumL (nmT y) (D.ts++[(⟨b,ints ls,zer np,zer nd,false,Mrk.new⟩:Th)])=_
 rw[jy,sumL_cons]
 have:nmT y (⟨b,ints ls,zer np,zer nd,false,Mrk.new⟩:Th)=0:=pg hy (fun i=>oh np i)
 rw[this]
 simp[sumL,liveL]
theorem Nam.made{b np nd:Nat}{ls cl:List Nat}(N:Nam hold D)(hh:hold b=0)(hn:∀t,t∈D.live→t.h≠b):Nam hold (D.made b ls cl np nd):=by
 have hmem:∀t,t∈D.live→t∈(D.made b ls cl np nd).live:=fun t ht=>by rw[live_made];exact List.mem_append_left _ ht
 refine⟨fun s hs=> ?_,fun s hs i hi=> ?_,fun s hs hd=> ?_⟩
 ·rw[zH (by omega)]
  rw[live_made] at hs
  rcases List.mem_append.1 hs with h|h
  ·exact N.cnt s h
  ·obtain rfl:=List.mem_singleton.1 h
   show(0:Int)=((hold b+sumL (nmT ((b:Int)+1)) D.ts:Nat):Int)
   have h0:sumL (nmT ((b:Int)+1)) D.ts=0:=sumL_none (fun t ht=>oZ (fun i hi e=>by
    rcases N.good t ht i hi with h|⟨u,hu,h⟩
    ·omega
    ·exact hn u hu (by omega)))
   rw[hh,h0]
   rfl
 ·rw[live_made] at hs
  rcases List.mem_append.1 hs with h|h
  ·rcases N.good s h i hi with h|⟨u,hu,h⟩
   ·exact .inl h
   ·exact .inr ⟨u,hmem u hu,h⟩
  ·obtain rfl:=List.mem_singleton.1 h
   exact .inl (oh np i)
 ·rw[live_made] at hs
  rcases List.mem_append.1 hs with h|h
  ·exact N.zer s h hd
  ·obtain rfl:=List.mem_singleton.1 h
   rfl
theorem nV:∀{l:List Th},(∀t,t∈l→t.ended=false)→liveL l=l
 |[],_=>rfl
 |u::l,h=>by rw[live_cons,h u (by simp),if_neg (by simp),nV (fun t ht=>h t (List.mem_cons_of_mem _ ht))]
structure Gro (N:Nat) (D:Wd) (k:Nat):Prop where
 san:San D
 nam:Nam (fun _=>0) D
 bd:∀y:Int,y≠0→sumL (nmT y) D.ts≤k
 gr:D.grave=[]
 nd:(D.ts.map Th.h).Nodup
 all:∀t,t∈D.ts→t.ended=false
 lt:∀t,t∈D.ts→t.h<N
theorem Gro.new(n:Nat){w:Nat}(h:16≤w):Gro n (Wd.new n w) 0:=⟨San.new n h,⟨fun t ht=>absurd ht (by simp[Wd.live,Wd.new,liveL]),fun t ht=>absurd ht (by simp[Wd.live,Wd.new,liveL]),fun t ht=>absurd ht (by simp[Wd.live,Wd.new,liveL])⟩,fun y _=>by simp[Wd.new,sumL,liveL],rfl,by simp[Wd.new],fun t ht=>absurd ht (by simp[Wd.new]),fun t ht=>absurd ht (by simp[Wd.new])⟩
theorem Gro.alive{N k:Nat}(G:Gro N D k)(ht:t∈D.live):t.mr.dead=false:=by
 cases h:t.mr.dead with
 |false=>rfl
 |true=>have:=(G.san.ok t ht).iff_.1 h;rw[G.gr] at this;simp at this
theorem Gro.made{b np nd k:Nat}{ls cl:List Nat}(G:Gro c.N D k)(R:ai c zs (D.made b ls cl np nd))(hm:c.May):Gro c.N (D.made b ls cl np nd) k:=by
 have hts:(D.made b ls cl np nd).ts=D.ts++[⟨b,ints ls,zer np,zer nd,false,Mrk.new⟩]:=rfl
 have hall:∀t,t∈(D.made b ls cl np nd).ts→t.ended=false:=fun t ht=>by
  rw[hts] at ht
  rcases List.mem_append.1 ht with h|h
  ·exact G.all t h
  ·obtain rfl:=List.mem_singleton.1 h;rfl
 have hl:(D.made b ls cl np nd).live=(D.made b ls cl np nd).ts:=nV hall
 have hl0:D.live=D.ts:=nV G.all
 have hnd:((D.made b ls cl np nd).ts.map Th.h).Nodup:=by rw[←hl];exact R.nodup
 refine⟨G.san.made R hm,G.nam.made rfl (fun t ht e=> ?_),fun y hy=>by rw[zH hy];exact G.bd y hy,G.gr,hnd,hall,fun t ht=>R.hlt (by rw[hl];exact ht)⟩
 rw[hts,List.map_append,List.nodup_append] at hnd
 exact hnd.2.2 t.h (List.mem_map.2 ⟨t,by rw[←hl0];exact ht,rfl⟩) b (by simp) e
theorem Gro.upd{N k k2:Nat}(G:Gro N D k)(S:San D')(Nm:Nam (fun _=>0) D')(hb:∀y:Int,y≠0→sumL (nmT y) D'.ts≤k2)(hgr:D'.grave=[])(hhd:D'.ts.map Th.h=D.ts.map Th.h)(hall:∀t,t∈D'.ts→t.ended=false):Gro N D' k2:=
 ⟨S,Nm,hb,hgr,by rw[hhd];exact G.nd,hall,fun t ht=>by
  have:t.h∈D.ts.map Th.h:=by rw[←hhd];exact List.mem_map.2 ⟨t,ht,rfl⟩
  obtain⟨u,hu,e⟩:=List.mem_map.1 this
  rw[←e]
  exact G.lt u hu⟩
theorem Be(hg:∀t,(g t).ended=t.ended)(r:Int):∀{l:List Th},(∀t,t∈l→t.ended=false)→∀t,t∈updL r g l→t.ended=false
 |[],_,t,ht=>by simp[updL] at ht
 |u::l,h,t,ht=>by
  unfold updL at ht
  split at ht
  ·rcases List.mem_cons.1 ht with rfl|ht
   ·rw[hg];exact h u (by simp)
   ·exact h t (List.mem_cons_of_mem _ ht)
  ·rcases List.mem_cons.1 ht with rfl|ht
   ·exact h t (by simp)
   ·exact Be hg r (fun s hs=>h s (List.mem_cons_of_mem _ hs)) t ht
theorem Gro.dye{N k:Nat}(G:Gro N D k)(r:Int):Gro N (D.dye r) k:=
 G.upd (G.san.mark r (fun _=>rfl) (fun _=>rfl) (fun _=>rfl)) (G.nam.mark G.san r (fun _=>rfl) (fun _=>rfl)) (fun y hy=>by
  have:sumL (nmT y) (D.dye r).ts=sumL (nmT y) D.ts:=sumL_mark r (fun t=>rfl)
  rw[this];exact G.bd y hy) G.gr (dP r _) (Be (g:=fun t=>{t with mr:={t.mr with color:=D.parity,count:=D.parity,shade:=D.parity,shadow:=0}}) (fun _=>rfl) r G.all)
theorem Gro.more{N k k2:Nat}(G:Gro N D k)(h:k≤k2):Gro N D k2:=⟨G.san,G.nam,fun y hy=>Nat.le_trans (G.bd y hy) h,G.gr,G.nd,G.all,G.lt⟩
theorem Gro.at{N k:Nat}(G:Gro N D k){j:Nat}(hj:j<D.allR.length):∃t,t∈D.live∧nth D.allR j=(t.h:Int)+1∧D.find (nth D.allR j)=some t:=by
 have hl:j<D.ts.length:=by unfold Wd.allR at hj;simpa using hj
 have e:nth D.allR j=(D.ts[j].h:Int)+1:=by
  unfold nth Wd.allR
  rw[List.getD_eq_getElem?_getD]
  simp[hl]
 have hm:D.ts[j]∈D.live:=by unfold Wd.live;rw[nV G.all];exact List.getElem_mem hl
 refine⟨D.ts[j],hm,e,?_⟩
 rw[e]
 exact G.san.findIt hm
end
section
variable {c:Cf} {D:Wd} {t u:Th} {r x:Int} {w wr:World} {p:Pl} {zs:List Int}
theorem Oe.field{v:Nat}(hm:c.May)(hw:c.W=v)(a:Oe t)(g:Geo v t){i:Nat}(hi:i<t.pt.length):∃q,aD c t.ob i=some q:=by
 have hW:=hm.w
 have ef:t.ob.f=t.pt.length+t.dt.length:=rfl
 by_cases hs:t.ob.f≤c.W-8
 ·exact⟨_,by unfold aD;rw[iF hs];rfl⟩
 ·obtain⟨_,h2⟩:=g.big (by rw[←hw];omega)
  have hq:i/(c.W-1)<t.lv.length:=by
   rw[Nat.div_lt_iff_lt_mul (by omega)]
   rw[←hw] at h2
   omega
  obtain⟨b,hb⟩:=a (i/(c.W-1)) hq
  exact⟨_,by unfold aD;rw[iX hs (Dx hb)];rfl⟩
theorem find64(hm:c.May)(R:ai c zs D)(hf:D.find r=some t):In64 r:=by
 obtain⟨htl,e⟩:=find_live hf
 rw[←e]
 exact R.heap.in64 hm (R.obMem htl)
theorem GL(S:San D)(hf:D.find r=some t)(hd:t.mr.dead=false)(i:Nat):Does c D 55 [.int .i64 r,.int .i64 (i:Int)] 12 D (.tuple #[.int .i64 (nth t.pt i),.int .i64 (if i<t.pt.length then 0 else 7)]):=fun zs hz R=>by
 obtain⟨htl,e⟩:=find_live hf
 have hr:=find64 hz.may R hf
 by_cases hi:i<t.pt.length
 ·obtain⟨a,ha⟩:=((S.ok t htl).alive hd).field hz.may R.w.symm (S.ok t htl).geo hi
  obtain⟨⟨d,hd,C⟩,_,_⟩:=rD hz R hr hf hi ha
  rw[if_pos hi]
  exact⟨zs,⟨d,hd,C⟩,R⟩
 ·have h:=objFns.ptr c zs D.clean D.obs r i hz R.heap hr
  have hob:=obAt_find R r
  rw[hf] at hob
  have hob:dm D.obs r=some t.ob:=hob
  have hb:iM (i:Int) t.ob.np=false:=by
   unfold iM
   have:t.ob.np=t.pt.length:=rfl
   simp
   omega
  have e1:mM c zs D.obs r (i:Int)=nth t.pt i:=by
   unfold mM
   rw[hob]
   simp only[hb]
   rw[aY (by omega)]
   rfl
  have e2:mK c D.obs r (i:Int)=7:=by
   unfold mK
   rw[hob]
   simp[hb]
  rw[e1,e2] at h
  rw[if_neg hi]
  exact⟨zs,h,R⟩
theorem Ny(hf:D.find r=some t)(hb:t.mr.refs<4294967295):Does c D 57 [.int .i64 r] 8 (D.up r) (.tuple #[.int .i64 (t.mr.refs+1),.bool true]):=fun zs hz R=>by
 obtain⟨htl,rfl⟩:=find_live hf
 have e3:nth zs (adr c t.ob.h 3)=t.mr.refs:=(R.own t htl).w3
 have h:=countFns.up_yes c zs D.clean D.obs t.ob hz R.heap (R.obMem htl) (by rw[e3];exact hb)
 rw[e3] at h
 exact⟨_,h,R.gW hz.may hz.len hf (v:=3) (.inl rfl) (x:=t.mr.refs+1) (f:=fun m=>{m with refs:=m.refs+1}) rfl⟩
theorem gd_is(hr:In64 r):Does c D 15 [.int .i64 r] 12 D (.bool (D.find r).isSome):=fun zs hz R=>by
 have h:=objFns.is_ c zs D.clean D.obs r hz R.heap hr
 rw[obAt_find R r,Option.isSome_map] at h
 exact⟨zs,h,R⟩
theorem gd_cnt(hr:In64 r):Does c D 60 [.int .i64 r] 2 D (.int .i64 (D.cnt r)):=fun zs hz R=>by
 obtain⟨d,hd,C⟩:=GK hz R hr
 exact⟨zs,⟨d,hd,C⟩,R⟩
theorem RSt.pendBd(h:RSt w p c D wr)(S:San D):0≤D.pending∧D.pending≤4294900000:=by
 obtain⟨zs,m,hG,hR,_⟩:=h
 have:=S.pendBd hR hG.may
 omega
theorem RSt.total(h:RSt w p c D wr)(S:San D):D.clean.length+sumL occT D.ts=c.N:=by
 obtain⟨zs,m,hG,hR,_⟩:=h
 exact S.total hR
end
section
variable {c:Cf} {zs zs1 zs2 zs3 zs4 zs5 zs6 zs7 zs8:List Int} {d1 d2 d3 d4 d5 d6 d7 d8:Nat}
set_option maxHeartbeats 1000000 in
theorem yB{r f n n2:Int}(hn:¬f<n)(C1:Run c 99 [.int .i64 r] zs d1 zs1 (.tuple #[.int .i64 n,.int .i64 n2,.int .i64 0])):Run c 42 [.int .i64 r,.int .i64 f] zs (d1) zs1 (.bool false):=fun p m w hG=>by
 have hle:n≤f:=by omega
 have hnf:¬f<n:=hn
 clear hn
 have HG:=hid hG
 have HC1:=hid C1
 clear hG C1
 go_enter Tryz.func42,Tryz.ntmps42
 have HT0:Hid (Touch (inG p) w w):=hid (Touch.refl _ _)
 go_wp2_with fail
 refine(HC1.out p _ _ HG.out).mono ?_
 rintro e wm1 ⟨rfl,hG,hT⟩
 have HG1:=hid hG
 have HT1:Hid (Touch (inG p) _ wm1):=hid (HT0.out.trans hT)
 clear hG hT
 go_wp2_with fail
 go_ret
 exact⟨rfl,HG1.out,HT1.out⟩
set_option maxHeartbeats 1000000 in
theorem Fs{r f n n2 x e:Int}{b:Bool}(hn:f<n)(C1:Run c 99 [.int .i64 r] zs d1 zs1 (.tuple #[.int .i64 n,.int .i64 n2,.int .i64 0]))(C2:Run c 55 [.int .i64 r,.int .i64 f] zs1 d2 zs2 (.tuple #[.int .i64 x,.int .i64 e]))(C3:Run c 100 [.int .i64 x] zs2 d3 zs3 (.bool b)):Run c 42 [.int .i64 r,.int .i64 f] zs (d1+d2+d3) zs3 (.bool true):=fun p m w hG=>by
 have hle:¬n≤f:=by omega
 have hnf:f<n:=hn
 clear hn
 have HG:=hid hG
 have HC1:=hid C1
 have HC2:=hid C2
 have HC3:=hid C3
 clear hG C1 C2 C3
 go_enter Tryz.func42,Tryz.ntmps42
 have HT0:Hid (Touch (inG p) w w):=hid (Touch.refl _ _)
 go_wp2_with fail
 refine(HC1.out p _ _ HG.out).mono ?_
 rintro e wm1 ⟨rfl,hG,hT⟩
 have HG1:=hid hG
 have HT1:Hid (Touch (inG p) _ wm1):=hid (HT0.out.trans hT)
 clear hG hT
 go_wp2_with fail
 refine(HC2.out p _ _ HG1.out).mono ?_
 rintro e wm2 ⟨rfl,hG,hT⟩
 have HG2:=hid hG
 have HT2:Hid (Touch (inG p) _ wm2):=hid (HT1.out.trans hT)
 clear hG hT
 go_wp2_with fail
 refine(HC3.out p _ _ HG2.out).mono ?_
 rintro e wm3 ⟨rfl,hG,hT⟩
 have HG3:=hid hG
 have HT3:Hid (Touch (inG p) _ wm3):=hid (HT2.out.trans hT)
 clear hG hT
 go_wp2_with fail
 go_ret
 exact⟨rfl,HG3.out.fG rfl (by dsimp only;omega),HT3.out⟩
set_option maxHeartbeats 1000000 in
theorem vJ{k f v:Int}(hv:v≠1)(C1:Run c 40 [] zs d1 zs1 (.tuple #[.int .i64 k,.int .i64 f]))(C2:Run c 12 [] zs1 d2 zs2 (.int .i64 v)):Run c 11 [] zs (d1+d2) zs2 (.bool false):=fun p m w hG=>by
 have hvb:(v !=1)=true:=by rw[bne_iff_ne];exact hv
 clear hv
 have HG:=hid hG
 have HC1:=hid C1
 have HC2:=hid C2
 clear hG C1 C2
 go_enter Tryz.func11,Tryz.ntmps11
 have HT0:Hid (Touch (inG p) w w):=hid (Touch.refl _ _)
 go_wp2_with fail
 refine(HC1.out p _ _ HG.out).mono ?_
 rintro e wm1 ⟨rfl,hG,hT⟩
 have HG1:=hid hG
 have HT1:Hid (Touch (inG p) _ wm1):=hid (HT0.out.trans hT)
 clear hG hT
 go_wp2_with fail
 refine(HC2.out p _ _ HG1.out).mono ?_
 rintro e wm2 ⟨rfl,hG,hT⟩
 have HG2:=hid hG
 have HT2:Hid (Touch (inG p) _ wm2):=hid (HT1.out.trans hT)
 clear hG hT
 go_wp2_with fail
 go_ret
 exact⟨rfl,HG2.out.fG rfl (by dsimp only;omega),HT2.out⟩
set_option maxHeartbeats 1000000 in
theorem Ba{k f:Int}(hk:(c.N:Int)≤k)(C1:Run c 40 [] zs d1 zs1 (.tuple #[.int .i64 k,.int .i64 f]))(C2:Run c 12 [] zs1 d2 zs2 (.int .i64 1)):Run c 11 [] zs (d1+d2) zs2 (.bool false):=fun p m w hG=>by
 have hfc:=cfield0 (c.N:Int) (c.W:Int) (c.R:Int) (c.K:Int)
 have hkn:(c.N:Int)≤k:=hk
 clear hk
 have HG:=hid hG
 have HC1:=hid C1
 have HC2:=hid C2
 clear hG C1 C2
 go_enter Tryz.func11,Tryz.ntmps11
 have HT0:Hid (Touch (inG p) w w):=hid (Touch.refl _ _)
 go_wp2_with fail
 refine(HC1.out p _ _ HG.out).mono ?_
 rintro e wm1 ⟨rfl,hG,hT⟩
 have HG1:=hid hG
 have HT1:Hid (Touch (inG p) _ wm1):=hid (HT0.out.trans hT)
 clear hG hT
 go_wp2_with fail
 refine(HC2.out p _ _ HG1.out).mono ?_
 rintro e wm2 ⟨rfl,hG,hT⟩
 have HG2:=hid hG
 have HT2:Hid (Touch (inG p) _ wm2):=hid (HT1.out.trans hT)
 clear hG hT
 go_wp2_with fail
 refine(dw p c _ _ HG2.out).mono ?_
 rintro e wm3 ⟨rfl,hb⟩
 have HG3:=hid (HG2.out.later hb)
 have HT3:Hid (Touch (inG p) _ wm3):=hid (HT2.out.trans (Touch.of_below hb))
 clear hb
 go_wp2_with fail
 go_ret
 exact⟨rfl,HG3.out.fG rfl (by dsimp only;omega),HT3.out⟩
set_option maxHeartbeats 1000000 in
theorem yA{k f:Int}{b:Bool}(h0:0≤k)(hk:k<(c.N:Int))(hm:c.May)(C1:Run c 40 [] zs d1 zs1 (.tuple #[.int .i64 k,.int .i64 f]))(C2:Run c 12 [] zs1 d2 zs2 (.int .i64 1))(C3:Run c 15 [.int .i64 (k+1)] zs2 d3 zs3 (.bool false))(C4:Run c 43 [.int .i64 (k+1),.int .i64 0] zs3 d4 zs4 (.bool b)):Run c 11 [] zs (d1+d2+d3+d4) zs4 (.bool b):=fun p m w hG=>by
 have hfc:=cfield0 (c.N:Int) (c.W:Int) (c.R:Int) (c.K:Int)
 have hmn:=hm.n
 have hkn:¬(c.N:Int)≤k:=by omega
 have hw1:IntKind.i64.wrap (k+1)=k+1:=IntWalk.i64_in _ (by omega)
 clear hm hmn
 have HG:=hid hG
 have HC1:=hid C1
 have HC2:=hid C2
 have HC3:=hid C3
 have HC4:=hid C4
 clear hG C1 C2 C3 C4
 go_enter Tryz.func11,Tryz.ntmps11
 have HT0:Hid (Touch (inG p) w w):=hid (Touch.refl _ _)
 go_wp2_with fail
 refine(HC1.out p _ _ HG.out).mono ?_
 rintro e wm1 ⟨rfl,hG,hT⟩
 have HG1:=hid hG
 have HT1:Hid (Touch (inG p) _ wm1):=hid (HT0.out.trans hT)
 clear hG hT
 go_wp2_with fail
 refine(HC2.out p _ _ HG1.out).mono ?_
 rintro e wm2 ⟨rfl,hG,hT⟩
 have HG2:=hid hG
 have HT2:Hid (Touch (inG p) _ wm2):=hid (HT1.out.trans hT)
 clear hG hT
 go_wp2_with fail
 refine(dw p c _ _ HG2.out).mono ?_
 rintro e wm3 ⟨rfl,hb⟩
 have HG3:=hid (HG2.out.later hb)
 have HT3:Hid (Touch (inG p) _ wm3):=hid (HT2.out.trans (Touch.of_below hb))
 clear hb
 go_wp2_with fail
 refine(HC3.out p _ _ HG3.out).mono ?_
 rintro e wm4 ⟨rfl,hG,hT⟩
 have HG4:=hid hG
 have HT4:Hid (Touch (inG p) _ wm4):=hid (HT3.out.trans hT)
 clear hG hT
 go_wp2_with fail
 refine(HC4.out p _ _ HG4.out).mono ?_
 rintro e wm5 ⟨rfl,hG,hT⟩
 have HG5:=hid hG
 have HT5:Hid (Touch (inG p) _ wm5):=hid (HT4.out.trans hT)
 clear hG hT
 go_wp2_with fail
 go_ret
 exact⟨rfl,HG5.out.fG rfl (by dsimp only;omega),HT5.out⟩
set_option maxHeartbeats 1000000 in
theorem qZ{k f:Int}{b:Bool}(h0:0≤k)(hk:k<(c.N:Int))(hm:c.May)(C1:Run c 40 [] zs d1 zs1 (.tuple #[.int .i64 k,.int .i64 f]))(C2:Run c 12 [] zs1 d2 zs2 (.int .i64 1))(C3:Run c 15 [.int .i64 (k+1)] zs2 d3 zs3 (.bool true))(C4:Run c 41 [.int .i64 (k+1),.int .i64 f] zs3 d4 zs4 (.bool true))(C5:Run c 43 [.int .i64 (k+1),.int .i64 0] zs4 d5 zs5 (.bool b)):Run c 11 [] zs (d1+d2+d3+d4+d5) zs5 (.bool b):=fun p m w hG=>by
 have hfc:=cfield0 (c.N:Int) (c.W:Int) (c.R:Int) (c.K:Int)
 have hmn:=hm.n
 have hkn:¬(c.N:Int)≤k:=by omega
 have hw1:IntKind.i64.wrap (k+1)=k+1:=IntWalk.i64_in _ (by omega)
 clear hm hmn
 have HG:=hid hG
 have HC1:=hid C1
 have HC2:=hid C2
 have HC3:=hid C3
 have HC4:=hid C4
 have HC5:=hid C5
 clear hG C1 C2 C3 C4 C5
 go_enter Tryz.func11,Tryz.ntmps11
 have HT0:Hid (Touch (inG p) w w):=hid (Touch.refl _ _)
 go_wp2_with fail
 refine(HC1.out p _ _ HG.out).mono ?_
 rintro e wm1 ⟨rfl,hG,hT⟩
 have HG1:=hid hG
 have HT1:Hid (Touch (inG p) _ wm1):=hid (HT0.out.trans hT)
 clear hG hT
 go_wp2_with fail
 refine(HC2.out p _ _ HG1.out).mono ?_
 rintro e wm2 ⟨rfl,hG,hT⟩
 have HG2:=hid hG
 have HT2:Hid (Touch (inG p) _ wm2):=hid (HT1.out.trans hT)
 clear hG hT
 go_wp2_with fail
 refine(dw p c _ _ HG2.out).mono ?_
 rintro e wm3 ⟨rfl,hb⟩
 have HG3:=hid (HG2.out.later hb)
 have HT3:Hid (Touch (inG p) _ wm3):=hid (HT2.out.trans (Touch.of_below hb))
 clear hb
 go_wp2_with fail
 refine(HC3.out p _ _ HG3.out).mono ?_
 rintro e wm4 ⟨rfl,hG,hT⟩
 have HG4:=hid hG
 have HT4:Hid (Touch (inG p) _ wm4):=hid (HT3.out.trans hT)
 clear hG hT
 go_wp2_with fail
 refine(HC4.out p _ _ HG4.out).mono ?_
 rintro e wm5 ⟨rfl,hG,hT⟩
 have HG5:=hid hG
 have HT5:Hid (Touch (inG p) _ wm5):=hid (HT4.out.trans hT)
 clear hG hT
 go_wp2_with fail
 refine(HC5.out p _ _ HG5.out).mono ?_
 rintro e wm6 ⟨rfl,hG,hT⟩
 have HG6:=hid hG
 have HT6:Hid (Touch (inG p) _ wm6):=hid (HT5.out.trans hT)
 clear hG hT
 go_wp2_with fail
 go_ret
 exact⟨rfl,HG6.out.fG rfl (by dsimp only;omega),HT6.out⟩
set_option maxHeartbeats 1000000 in
theorem yz{k f:Int}{b b2:Bool}(h0:0≤k)(hk:k<(c.N:Int))(hm:c.May)(C1:Run c 40 [] zs d1 zs1 (.tuple #[.int .i64 k,.int .i64 f]))(C2:Run c 12 [] zs1 d2 zs2 (.int .i64 1))(C3:Run c 15 [.int .i64 (k+1)] zs2 d3 zs3 (.bool true))(C4:Run c 41 [.int .i64 (k+1),.int .i64 f] zs3 d4 zs4 (.bool false))(C5:Run c 42 [.int .i64 (k+1),.int .i64 f] zs4 d5 zs5 (.bool false))(C6:Run c 44 [.int .i64 (k+1)] zs5 d6 zs6 (.bool b2))(C7:Run c 43 [.int .i64 (k+1),.int .i64 0] zs6 d7 zs7 (.bool b)):Run c 11 [] zs (d1+d2+d3+d4+d5+d6+d7) zs7 (.bool b):=fun p m w hG=>by
 have hfc:=cfield0 (c.N:Int) (c.W:Int) (c.R:Int) (c.K:Int)
 have hmn:=hm.n
 have hkn:¬(c.N:Int)≤k:=by omega
 have hw1:IntKind.i64.wrap (k+1)=k+1:=IntWalk.i64_in _ (by omega)
 clear hm hmn
 have HG:=hid hG
 have HC1:=hid C1
 have HC2:=hid C2
 have HC3:=hid C3
 have HC4:=hid C4
 have HC5:=hid C5
 have HC6:=hid C6
 have HC7:=hid C7
 clear hG C1 C2 C3 C4 C5 C6 C7
 go_enter Tryz.func11,Tryz.ntmps11
 have HT0:Hid (Touch (inG p) w w):=hid (Touch.refl _ _)
 go_wp2_with fail
 refine(HC1.out p _ _ HG.out).mono ?_
 rintro e wm1 ⟨rfl,hG,hT⟩
 have HG1:=hid hG
 have HT1:Hid (Touch (inG p) _ wm1):=hid (HT0.out.trans hT)
 clear hG hT
 go_wp2_with fail
 refine(HC2.out p _ _ HG1.out).mono ?_
 rintro e wm2 ⟨rfl,hG,hT⟩
 have HG2:=hid hG
 have HT2:Hid (Touch (inG p) _ wm2):=hid (HT1.out.trans hT)
 clear hG hT
 go_wp2_with fail
 refine(dw p c _ _ HG2.out).mono ?_
 rintro e wm3 ⟨rfl,hb⟩
 have HG3:=hid (HG2.out.later hb)
 have HT3:Hid (Touch (inG p) _ wm3):=hid (HT2.out.trans (Touch.of_below hb))
 clear hb
 go_wp2_with fail
 refine(HC3.out p _ _ HG3.out).mono ?_
 rintro e wm4 ⟨rfl,hG,hT⟩
 have HG4:=hid hG
 have HT4:Hid (Touch (inG p) _ wm4):=hid (HT3.out.trans hT)
 clear hG hT
 go_wp2_with fail
 refine(HC4.out p _ _ HG4.out).mono ?_
 rintro e wm5 ⟨rfl,hG,hT⟩
 have HG5:=hid hG
 have HT5:Hid (Touch (inG p) _ wm5):=hid (HT4.out.trans hT)
 clear hG hT
 go_wp2_with fail
 refine(HC5.out p _ _ HG5.out).mono ?_
 rintro e wm6 ⟨rfl,hG,hT⟩
 have HG6:=hid hG
 have HT6:Hid (Touch (inG p) _ wm6):=hid (HT5.out.trans hT)
 clear hG hT
 go_wp2_with fail
 refine(HC6.out p _ _ HG6.out).mono ?_
 rintro e wm7 ⟨rfl,hG,hT⟩
 have HG7:=hid hG
 have HT7:Hid (Touch (inG p) _ wm7):=hid (HT6.out.trans hT)
 clear hG hT
 go_wp2_with fail
 refine(HC7.out p _ _ HG7.out).mono ?_
 rintro e wm8 ⟨rfl,hG,hT⟩
 have HG8:=hid hG
 have HT8:Hid (Touch (inG p) _ wm8):=hid (HT7.out.trans hT)
 clear hG hT
 go_wp2_with fail
 go_ret
 exact⟨rfl,HG8.out.fG rfl (by dsimp only;omega),HT8.out⟩
set_option maxHeartbeats 1000000 in
theorem yx{k f:Int}{b:Bool}(hf0:0≤f)(hf1:f≤4294967295)(h0:0≤k)(hk:k<(c.N:Int))(hm:c.May)(C1:Run c 40 [] zs d1 zs1 (.tuple #[.int .i64 k,.int .i64 f]))(C2:Run c 12 [] zs1 d2 zs2 (.int .i64 1))(C3:Run c 15 [.int .i64 (k+1)] zs2 d3 zs3 (.bool true))(C4:Run c 41 [.int .i64 (k+1),.int .i64 f] zs3 d4 zs4 (.bool false))(C5:Run c 42 [.int .i64 (k+1),.int .i64 f] zs4 d5 zs5 (.bool true))(C6:Run c 43 [.int .i64 k,.int .i64 (f+1)] zs5 d6 zs6 (.bool b)):Run c 11 [] zs (d1+d2+d3+d4+d5+d6) zs6 (.bool b):=fun p m w hG=>by
 have hfc:=cfield0 (c.N:Int) (c.W:Int) (c.R:Int) (c.K:Int)
 have hmn:=hm.n
 have hkn:¬(c.N:Int)≤k:=by omega
 have hw1:IntKind.i64.wrap (k+1)=k+1:=IntWalk.i64_in _ (by omega)
 have hw2:IntKind.i64.wrap (f+1)=f+1:=IntWalk.i64_in _ (by omega)
 clear hm hmn hf0 hf1
 have HG:=hid hG
 have HC1:=hid C1
 have HC2:=hid C2
 have HC3:=hid C3
 have HC4:=hid C4
 have HC5:=hid C5
 have HC6:=hid C6
 clear hG C1 C2 C3 C4 C5 C6
 go_enter Tryz.func11,Tryz.ntmps11
 have HT0:Hid (Touch (inG p) w w):=hid (Touch.refl _ _)
 go_wp2_with fail
 refine(HC1.out p _ _ HG.out).mono ?_
 rintro e wm1 ⟨rfl,hG,hT⟩
 have HG1:=hid hG
 have HT1:Hid (Touch (inG p) _ wm1):=hid (HT0.out.trans hT)
 clear hG hT
 go_wp2_with fail
 refine(HC2.out p _ _ HG1.out).mono ?_
 rintro e wm2 ⟨rfl,hG,hT⟩
 have HG2:=hid hG
 have HT2:Hid (Touch (inG p) _ wm2):=hid (HT1.out.trans hT)
 clear hG hT
 go_wp2_with fail
 refine(dw p c _ _ HG2.out).mono ?_
 rintro e wm3 ⟨rfl,hb⟩
 have HG3:=hid (HG2.out.later hb)
 have HT3:Hid (Touch (inG p) _ wm3):=hid (HT2.out.trans (Touch.of_below hb))
 clear hb
 go_wp2_with fail
 refine(HC3.out p _ _ HG3.out).mono ?_
 rintro e wm4 ⟨rfl,hG,hT⟩
 have HG4:=hid hG
 have HT4:Hid (Touch (inG p) _ wm4):=hid (HT3.out.trans hT)
 clear hG hT
 go_wp2_with fail
 refine(HC4.out p _ _ HG4.out).mono ?_
 rintro e wm5 ⟨rfl,hG,hT⟩
 have HG5:=hid hG
 have HT5:Hid (Touch (inG p) _ wm5):=hid (HT4.out.trans hT)
 clear hG hT
 go_wp2_with fail
 refine(HC5.out p _ _ HG5.out).mono ?_
 rintro e wm6 ⟨rfl,hG,hT⟩
 have HG6:=hid hG
 have HT6:Hid (Touch (inG p) _ wm6):=hid (HT5.out.trans hT)
 clear hG hT
 go_wp2_with fail
 refine(HC6.out p _ _ HG6.out).mono ?_
 rintro e wm7 ⟨rfl,hG,hT⟩
 have HG7:=hid hG
 have HT7:Hid (Touch (inG p) _ wm7):=hid (HT6.out.trans hT)
 clear hG hT
 go_wp2_with fail
 go_ret
 exact⟨rfl,HG7.out.fG rfl (by dsimp only;omega),HT7.out⟩
end
theorem wU(k c n s d g o:Int)(w:World):(Instr.field 82 (.agg #[.int .i64 k,.int .i64 c,.int .i64 n,.int .i64 s,.int .i64 d,.int .i64 g,.int .i64 o]) 3).run Tryz.prog w=.ok (.int .i64 s) w:=by kernel_rfl
theorem uA(x:Int)(h0:0≤x)(h1:x≤4294967295):∃k cc n sh dd gg o:Int,sh=uS x∧∀w:World,Calls Tryz.prog 113 #[.int .u32 x] w fun e w'=>e=.returned (.agg #[.int .i64 k,.int .i64 cc,.int .i64 n,.int .i64 sh,.int .i64 dd,.int .i64 gg,.int .i64 o])∧Below w.heap.size w w':=⟨_,_,_,_,_,_,_,rfl,fun w=>bI x w h0 h1⟩
theorem Gx(w:World):Calls Tryz.prog 167 #[] w fun e w'=>e=.returned (.int .u32 16)∧Below w.heap.size w w':=by
 have HP1:=hid (fun w:World=>dB 1 0 0 1 0 0 0 w (by decide))
 have HP2:=hid (fun w:World=>dB 1 0 0 0 0 0 0 w (by decide))
 rw[show aU 1 0 0 1 0 0 0=17 from rfl] at HP1
 rw[show aU 1 0 0 0 0 0 0=1 from rfl] at HP2
 have hx:bits .xor .u32 17 1=16:=by decide
 go_enter Tryz.func167,Tryz.ntmps167
 go_wp2_with fail
 refine(HP1.out _).mono ?_
 rintro e w1 ⟨rfl,hb⟩
 have HB1:=hid hb
 clear hb
 go_wp2_with fail
 refine(HP2.out _).mono ?_
 rintro e w2 ⟨rfl,hb⟩
 have HB2:=hid (below_step HB1.out hb)
 clear hb
 go_wp2_with fail
 go_ret
 exact⟨rfl,HB2.out⟩
section
variable {c:Cf} {zs zs1 zs2 zs3 zs4 zs5 zs6 zs7 zs8:List Int} {d1 d2 d3 d4 d5 d6 d7 d8:Nat}
set_option maxHeartbeats 1000000 in
theorem sj{h:Nat}{x P:Int}(hh:h<c.N)(hm:c.May)(hx:nth zs (adr c h 0)=x)(x0:0≤x)(x1:x≤4294967295)(he:uS x=P)(C1:Run c 38 [] zs d1 zs1 (.int .i64 P)):Run c 106 [.int .i64 ((h:Int)+1)] zs (1+d1) zs1 (.tuple #[]):=fun p m w hG=>by
 have hw1:IntKind.i64.wrap ((h:Int)+1-1)=(h:Int):=by rw[IntWalk.i64_in _ (by have:=hm.n;omega)];omega
 have hw2:wrap64 (h:Int)=(h:Int):=IntWalk.wrap64_in _ (by have:=hm.n;omega)
 obtain⟨k,cc,n,sh,dd,gg,o,hsh,hU⟩:=uA x x0 x1
 have hfd:=wU k cc n sh dd gg o
 rw[←hsh] at he
 have HH:=hid hh
 have HV:=hid (show 0<c.W by have:=hm.w;omega)
 have HV4:=hid (show 4<c.W by have:=hm.w;omega)
 have HX:=hid hx
 have HU:=hid hU
 have heb:(sh==P)=true:=by rw[beq_iff_eq];exact he
 clear he hh hm hx x0 x1 hsh hU
 have HG:=hid hG
 have HC1:=hid C1
 clear hG C1
 go_enter Tryz.func106,Tryz.ntmps106
 have HT0:Hid (Touch (inG p) w w):=hid (Touch.refl _ _)
 go_wp2_with fail
 refine(dW p c _ h 0 _ _ x _ HG.out HH.out HV.out rfl rfl HX.out).mono ?_
 rintro e wm1 ⟨rfl,hG,hT⟩
 have HG1:=hid hG
 have HT1:Hid (Touch (inG p) _ wm1):=hid (HT0.out.trans hT)
 clear hG hT
 go_wp2_with fail
 refine(HU.out _).mono ?_
 rintro e wm2 ⟨rfl,hb⟩
 have HG2:=hid (HG1.out.later hb)
 have HT2:Hid (Touch (inG p) _ wm2):=hid (HT1.out.trans (Touch.of_below hb))
 clear hb
 go_wp2_with fail
 refine(HC1.out p _ _ HG2.out).mono ?_
 rintro e wm3 ⟨rfl,hG,hT⟩
 have HG3:=hid hG
 have HT3:Hid (Touch (inG p) _ wm3):=hid (HT2.out.trans hT)
 clear hG hT
 go_wp2_with fail
 go_end0
 exact⟨rfl,HG3.out.fG rfl (by dsimp only[St.got,St.set]<;>omega),HT3.out⟩
set_option maxHeartbeats 1000000 in
theorem uP{h:Nat}{x P y:Int}(hh:h<c.N)(hm:c.May)(hx:nth zs (adr c h 0)=x)(x0:0≤x)(x1:x≤4294967295)(he:uS x≠P)(hy:bits .xor .u32 x 16=y)(y0:0≤y)(y1:y≤4294967295)(C1:Run c 38 [] zs d1 zs1 (.int .i64 P)):Run c 106 [.int .i64 ((h:Int)+1)] zs (1+d1+1+1) ((zs1.set (adr c h 0) y).set (adr c h 4) 0) (.tuple #[]):=fun p m w hG=>by
 have hw1:IntKind.i64.wrap ((h:Int)+1-1)=(h:Int):=by rw[IntWalk.i64_in _ (by have:=hm.n;omega)];omega
 have hw2:wrap64 (h:Int)=(h:Int):=IntWalk.wrap64_in _ (by have:=hm.n;omega)
 obtain⟨k,cc,n,sh,dd,gg,o,hsh,hU⟩:=uA x x0 x1
 have hfd:=wU k cc n sh dd gg o
 rw[←hsh] at he
 have HH:=hid hh
 have HV:=hid (show 0<c.W by have:=hm.w;omega)
 have HV4:=hid (show 4<c.W by have:=hm.w;omega)
 have HX:=hid hx
 have HU:=hid hU
 have heb:(sh==P)=false:=by rw[beq_eq_false_iff_ne];exact he
 have HY:=hid (And.intro y0 y1)
 clear he hh hm hx x0 x1 y0 y1 hsh hU
 have HG:=hid hG
 have HC1:=hid C1
 clear hG C1
 go_enter Tryz.func106,Tryz.ntmps106
 have HT0:Hid (Touch (inG p) w w):=hid (Touch.refl _ _)
 go_wp2_with fail
 refine(dW p c _ h 0 _ _ x _ HG.out HH.out HV.out rfl rfl HX.out).mono ?_
 rintro e wm1 ⟨rfl,hG,hT⟩
 have HG1:=hid hG
 have HT1:Hid (Touch (inG p) _ wm1):=hid (HT0.out.trans hT)
 clear hG hT
 go_wp2_with fail
 refine(HU.out _).mono ?_
 rintro e wm2 ⟨rfl,hb⟩
 have HG2:=hid (HG1.out.later hb)
 have HT2:Hid (Touch (inG p) _ wm2):=hid (HT1.out.trans (Touch.of_below hb))
 clear hb
 go_wp2_with fail
 refine(HC1.out p _ _ HG2.out).mono ?_
 rintro e wm3 ⟨rfl,hG,hT⟩
 have HG3:=hid hG
 have HT3:Hid (Touch (inG p) _ wm3):=hid (HT2.out.trans hT)
 clear hG hT
 go_wp2_with fail
 refine(Gx _).mono ?_
 rintro e wm4 ⟨rfl,hb⟩
 have HG4:=hid (HG3.out.later hb)
 have HT4:Hid (Touch (inG p) _ wm4):=hid (HT3.out.trans (Touch.of_below hb))
 clear hb
 go_wp2_with fail
 refine(ay p c _ h 0 _ _ y _ HG4.out HH.out HV.out rfl rfl HY.out.1 HY.out.2).mono ?_
 rintro e wm5 ⟨rfl,hG,hT⟩
 have HG5:=hid hG
 have HT5:Hid (Touch (inG p) _ wm5):=hid (HT4.out.trans hT)
 clear hG hT
 go_wp2_with fail
 refine(ay p c _ h 4 _ _ 0 _ HG5.out HH.out HV4.out rfl rfl (by omega) (by omega)).mono ?_
 rintro e wm6 ⟨rfl,hG,hT⟩
 have HG6:=hid hG
 have HT6:Hid (Touch (inG p) _ wm6):=hid (HT5.out.trans hT)
 clear hG hT
 go_wp2_with fail
 go_end0
 exact⟨rfl,HG6.out.fG rfl (by dsimp only[St.got,St.set]<;>omega),HT6.out⟩
set_option maxHeartbeats 1000000 in
theorem BF(h14:nth zs 14=0):Run c 46 [] zs (1) zs (.bool false):=fun p m w hG=>by
 have HR14:=hid h14
 clear h14
 have HG:=hid hG
 clear hG
 go_enter Tryz.func46,Tryz.ntmps46
 have HT0:Hid (Touch (inG p) w w):=hid (Touch.refl _ _)
 go_wp2_with fail
 refine(fQ p c _ 14 _ _ _ HG.out (by omega) rfl HR14.out).mono ?_
 rintro e wm1 ⟨rfl,hG,hT⟩
 have HG1:=hid hG
 have HT1:Hid (Touch (inG p) _ wm1):=hid (HT0.out.trans hT)
 clear hG hT
 go_wp2_with fail
 go_ret
 exact⟨rfl,HG1.out.fG rfl (by dsimp only[St.got,St.set]<;>omega),HT1.out⟩
set_option maxHeartbeats 1000000 in
theorem qA{r i n n2 e:Int}(h14:nth zs 14=r)(hr:r≠0)(h15:nth zs 15=i)(hi:n≤i)(C1:Run c 99 [.int .i64 r] zs d1 zs1 (.tuple #[.int .i64 n,.int .i64 n2,.int .i64 e])):Run c 46 [] zs (1+1+d1+1) (zs1.set 14 0) (.bool true):=fun p m w hG=>by
 have HR14:=hid h14
 have hrb:(r==0)=false:=by rw[beq_eq_false_iff_ne];exact hr
 clear h14 hr
 have HR15:=hid h15
 clear h15
 have HG:=hid hG
 have HC1:=hid C1
 clear hG C1
 go_enter Tryz.func46,Tryz.ntmps46
 have HT0:Hid (Touch (inG p) w w):=hid (Touch.refl _ _)
 go_wp2_with fail
 refine(fQ p c _ 14 _ _ _ HG.out (by omega) rfl HR14.out).mono ?_
 rintro e wm1 ⟨rfl,hG,hT⟩
 have HG1:=hid hG
 have HT1:Hid (Touch (inG p) _ wm1):=hid (HT0.out.trans hT)
 clear hG hT
 go_wp2_with fail
 refine(fQ p c _ 15 _ _ _ HG1.out (by omega) rfl HR15.out).mono ?_
 rintro e wm2 ⟨rfl,hG,hT⟩
 have HG2:=hid hG
 have HT2:Hid (Touch (inG p) _ wm2):=hid (HT1.out.trans hT)
 clear hG hT
 go_wp2_with fail
 refine(HC1.out p _ _ HG2.out).mono ?_
 rintro e wm3 ⟨rfl,hG,hT⟩
 have HG3:=hid hG
 have HT3:Hid (Touch (inG p) _ wm3):=hid (HT2.out.trans hT)
 clear hG hT
 go_wp2_with fail
 refine(aB p c _ 14 _ 0 _ HG3.out (by omega) rfl (by omega) (by omega)).mono ?_
 rintro e wm4 ⟨rfl,hG,hT⟩
 have HG4:=hid hG
 have HT4:Hid (Touch (inG p) _ wm4):=hid (HT3.out.trans hT)
 clear hG hT
 go_wp2_with fail
 go_ret
 exact⟨rfl,HG4.out.fG rfl (by dsimp only[St.got,St.set]<;>omega),HT4.out⟩
set_option maxHeartbeats 1000000 in
theorem JA{r i n n2 e x e2:Int}{b:Bool}(h14:nth zs 14=r)(hr:r≠0)(h15:nth zs 15=i)(i0:0≤i)(i1:i<4294967295)(hi:i<n)(C1:Run c 99 [.int .i64 r] zs d1 zs1 (.tuple #[.int .i64 n,.int .i64 n2,.int .i64 e]))(C2:Run c 55 [.int .i64 r,.int .i64 i] zs1 d2 zs2 (.tuple #[.int .i64 x,.int .i64 e2]))(C3:Run c 88 [.int .i64 x] zs2 d3 zs3 (.bool b)):Run c 46 [] zs (1+1+d1+d2+d3+1) (zs3.set 15 (i+1)) (.bool true):=fun p m w hG=>by
 have hni:¬n≤i:=by omega
 have hw2:IntKind.i64.wrap (i+1)=i+1:=IntWalk.i64_in _ (by omega)
 have HR14:=hid h14
 have hrb:(r==0)=false:=by rw[beq_eq_false_iff_ne];exact hr
 clear h14 hr
 have HR15:=hid h15
 clear h15
 have HG:=hid hG
 have HC1:=hid C1
 have HC2:=hid C2
 have HC3:=hid C3
 clear hG C1 C2 C3
 go_enter Tryz.func46,Tryz.ntmps46
 have HT0:Hid (Touch (inG p) w w):=hid (Touch.refl _ _)
 go_wp2_with fail
 refine(fQ p c _ 14 _ _ _ HG.out (by omega) rfl HR14.out).mono ?_
 rintro e wm1 ⟨rfl,hG,hT⟩
 have HG1:=hid hG
 have HT1:Hid (Touch (inG p) _ wm1):=hid (HT0.out.trans hT)
 clear hG hT
 go_wp2_with fail
 refine(fQ p c _ 15 _ _ _ HG1.out (by omega) rfl HR15.out).mono ?_
 rintro e wm2 ⟨rfl,hG,hT⟩
 have HG2:=hid hG
 have HT2:Hid (Touch (inG p) _ wm2):=hid (HT1.out.trans hT)
 clear hG hT
 go_wp2_with fail
 refine(HC1.out p _ _ HG2.out).mono ?_
 rintro e wm3 ⟨rfl,hG,hT⟩
 have HG3:=hid hG
 have HT3:Hid (Touch (inG p) _ wm3):=hid (HT2.out.trans hT)
 clear hG hT
 go_wp2_with fail
 refine(HC2.out p _ _ HG3.out).mono ?_
 rintro e wm4 ⟨rfl,hG,hT⟩
 have HG4:=hid hG
 have HT4:Hid (Touch (inG p) _ wm4):=hid (HT3.out.trans hT)
 clear hG hT
 go_wp2_with fail
 refine(HC3.out p _ _ HG4.out).mono ?_
 rintro e wm5 ⟨rfl,hG,hT⟩
 have HG5:=hid hG
 have HT5:Hid (Touch (inG p) _ wm5):=hid (HT4.out.trans hT)
 clear hG hT
 go_wp2_with fail
 refine(aB p c _ 15 _ (i+1) _ HG5.out (by omega) rfl (by omega) (by omega)).mono ?_
 rintro e wm6 ⟨rfl,hG,hT⟩
 have HG6:=hid hG
 have HT6:Hid (Touch (inG p) _ wm6):=hid (HT5.out.trans hT)
 clear hG hT
 go_wp2_with fail
 go_ret
 exact⟨rfl,HG6.out.fG rfl (by dsimp only[St.got,St.set]<;>omega),HT6.out⟩
set_option maxHeartbeats 1000000 in
theorem xn{b:Int}(C1:Run c 105 [] zs d1 zs1 (.tuple #[.int .i64 b,.bool false])):Run c 47 [] zs (d1) zs1 (.bool false):=fun p m w hG=>by
 have HG:=hid hG
 have HC1:=hid C1
 clear hG C1
 go_enter Tryz.func47,Tryz.ntmps47
 have HT0:Hid (Touch (inG p) w w):=hid (Touch.refl _ _)
 go_wp2_with fail
 refine(HC1.out p _ _ HG.out).mono ?_
 rintro e wm1 ⟨rfl,hG,hT⟩
 have HG1:=hid hG
 have HT1:Hid (Touch (inG p) _ wm1):=hid (HT0.out.trans hT)
 clear hG hT
 go_wp2_with fail
 go_ret
 exact⟨rfl,HG1.out,HT1.out⟩
set_option maxHeartbeats 1000000 in
theorem Er{b:Nat}(hb:b<4294967295)(C1:Run c 105 [] zs d1 zs1 (.tuple #[.int .i64 (b:Int),.bool true])):Run c 47 [] zs (d1+1+1) ((zs1.set 14 ((b:Int)+1)).set 15 0) (.bool true):=fun p m w hG=>by
 have hw1:IntKind.i64.wrap ((b:Int)+1)=(b:Int)+1:=IntWalk.i64_in _ (by omega)
 have HG:=hid hG
 have HC1:=hid C1
 clear hG C1
 go_enter Tryz.func47,Tryz.ntmps47
 have HT0:Hid (Touch (inG p) w w):=hid (Touch.refl _ _)
 go_wp2_with fail
 refine(HC1.out p _ _ HG.out).mono ?_
 rintro e wm1 ⟨rfl,hG,hT⟩
 have HG1:=hid hG
 have HT1:Hid (Touch (inG p) _ wm1):=hid (HT0.out.trans hT)
 clear hG hT
 go_wp2_with fail
 refine(aB p c _ 14 _ ((b:Int)+1) _ HG1.out (by omega) rfl (by omega) (by omega)).mono ?_
 rintro e wm2 ⟨rfl,hG,hT⟩
 have HG2:=hid hG
 have HT2:Hid (Touch (inG p) _ wm2):=hid (HT1.out.trans hT)
 clear hG hT
 go_wp2_with fail
 refine(aB p c _ 15 _ 0 _ HG2.out (by omega) rfl (by omega) (by omega)).mono ?_
 rintro e wm3 ⟨rfl,hG,hT⟩
 have HG3:=hid hG
 have HT3:Hid (Touch (inG p) _ wm3):=hid (HT2.out.trans hT)
 clear hG hT
 go_wp2_with fail
 go_ret
 exact⟨rfl,HG3.out.fG rfl (by dsimp only[St.got,St.set]<;>omega),HT3.out⟩
set_option maxHeartbeats 1000000 in
theorem zh{k f:Int}(hk:(c.N:Int)≤k)(C1:Run c 40 [] zs d1 zs1 (.tuple #[.int .i64 k,.int .i64 f])):Run c 48 [] zs (d1) zs1 (.bool false):=fun p m w hG=>by
 have hfc:=cfield0 (c.N:Int) (c.W:Int) (c.R:Int) (c.K:Int)
 have hkn:(c.N:Int)≤k:=hk
 clear hk
 have HG:=hid hG
 have HC1:=hid C1
 clear hG C1
 go_enter Tryz.func48,Tryz.ntmps48
 have HT0:Hid (Touch (inG p) w w):=hid (Touch.refl _ _)
 go_wp2_with fail
 refine(HC1.out p _ _ HG.out).mono ?_
 rintro e wm1 ⟨rfl,hG,hT⟩
 have HG1:=hid hG
 have HT1:Hid (Touch (inG p) _ wm1):=hid (HT0.out.trans hT)
 clear hG hT
 go_wp2_with fail
 refine(dw p c _ _ HG1.out).mono ?_
 rintro e wm2 ⟨rfl,hb⟩
 have HG2:=hid (HG1.out.later hb)
 have HT2:Hid (Touch (inG p) _ wm2):=hid (HT1.out.trans (Touch.of_below hb))
 clear hb
 go_wp2_with fail
 go_ret
 exact⟨rfl,HG2.out,HT2.out⟩
set_option maxHeartbeats 1000000 in
theorem xu{k f:Int}{b:Bool}(h0:0≤k)(hk:k<(c.N:Int))(hm:c.May)(C1:Run c 40 [] zs d1 zs1 (.tuple #[.int .i64 k,.int .i64 f]))(C2:Run c 15 [.int .i64 (k+1)] zs1 d2 zs2 (.bool false))(C3:Run c 43 [.int .i64 (k+1),.int .i64 f] zs2 d3 zs3 (.bool b)):Run c 48 [] zs (d1+d2+d3) zs3 (.bool b):=fun p m w hG=>by
 have hfc:=cfield0 (c.N:Int) (c.W:Int) (c.R:Int) (c.K:Int)
 have hmn:=hm.n
 have hkn:¬(c.N:Int)≤k:=by omega
 have hw1:IntKind.i64.wrap (k+1)=k+1:=IntWalk.i64_in _ (by omega)
 clear hm hmn
 have HG:=hid hG
 have HC1:=hid C1
 have HC2:=hid C2
 have HC3:=hid C3
 clear hG C1 C2 C3
 go_enter Tryz.func48,Tryz.ntmps48
 have HT0:Hid (Touch (inG p) w w):=hid (Touch.refl _ _)
 go_wp2_with fail
 refine(HC1.out p _ _ HG.out).mono ?_
 rintro e wm1 ⟨rfl,hG,hT⟩
 have HG1:=hid hG
 have HT1:Hid (Touch (inG p) _ wm1):=hid (HT0.out.trans hT)
 clear hG hT
 go_wp2_with fail
 refine(dw p c _ _ HG1.out).mono ?_
 rintro e wm2 ⟨rfl,hb⟩
 have HG2:=hid (HG1.out.later hb)
 have HT2:Hid (Touch (inG p) _ wm2):=hid (HT1.out.trans (Touch.of_below hb))
 clear hb
 go_wp2_with fail
 refine(HC2.out p _ _ HG2.out).mono ?_
 rintro e wm3 ⟨rfl,hG,hT⟩
 have HG3:=hid hG
 have HT3:Hid (Touch (inG p) _ wm3):=hid (HT2.out.trans hT)
 clear hG hT
 go_wp2_with fail
 refine(HC3.out p _ _ HG3.out).mono ?_
 rintro e wm4 ⟨rfl,hG,hT⟩
 have HG4:=hid hG
 have HT4:Hid (Touch (inG p) _ wm4):=hid (HT3.out.trans hT)
 clear hG hT
 go_wp2_with fail
 go_ret
 exact⟨rfl,HG4.out.fG rfl (by dsimp only;omega),HT4.out⟩
set_option maxHeartbeats 1000000 in
theorem xq{k f:Int}{b:Bool}(h0:0≤k)(hk:k<(c.N:Int))(hm:c.May)(C1:Run c 40 [] zs d1 zs1 (.tuple #[.int .i64 k,.int .i64 f]))(C2:Run c 15 [.int .i64 (k+1)] zs1 d2 zs2 (.bool true))(C3:Run c 16 [.int .i64 (k+1)] zs2 d3 zs3 (.bool true))(C4:Run c 43 [.int .i64 (k+1),.int .i64 f] zs3 d4 zs4 (.bool b)):Run c 48 [] zs (d1+d2+d3+d4) zs4 (.bool b):=fun p m w hG=>by
 have hfc:=cfield0 (c.N:Int) (c.W:Int) (c.R:Int) (c.K:Int)
 have hmn:=hm.n
 have hkn:¬(c.N:Int)≤k:=by omega
 have hw1:IntKind.i64.wrap (k+1)=k+1:=IntWalk.i64_in _ (by omega)
 clear hm hmn
 have HG:=hid hG
 have HC1:=hid C1
 have HC2:=hid C2
 have HC3:=hid C3
 have HC4:=hid C4
 clear hG C1 C2 C3 C4
 go_enter Tryz.func48,Tryz.ntmps48
 have HT0:Hid (Touch (inG p) w w):=hid (Touch.refl _ _)
 go_wp2_with fail
 refine(HC1.out p _ _ HG.out).mono ?_
 rintro e wm1 ⟨rfl,hG,hT⟩
 have HG1:=hid hG
 have HT1:Hid (Touch (inG p) _ wm1):=hid (HT0.out.trans hT)
 clear hG hT
 go_wp2_with fail
 refine(dw p c _ _ HG1.out).mono ?_
 rintro e wm2 ⟨rfl,hb⟩
 have HG2:=hid (HG1.out.later hb)
 have HT2:Hid (Touch (inG p) _ wm2):=hid (HT1.out.trans (Touch.of_below hb))
 clear hb
 go_wp2_with fail
 refine(HC2.out p _ _ HG2.out).mono ?_
 rintro e wm3 ⟨rfl,hG,hT⟩
 have HG3:=hid hG
 have HT3:Hid (Touch (inG p) _ wm3):=hid (HT2.out.trans hT)
 clear hG hT
 go_wp2_with fail
 refine(HC3.out p _ _ HG3.out).mono ?_
 rintro e wm4 ⟨rfl,hG,hT⟩
 have HG4:=hid hG
 have HT4:Hid (Touch (inG p) _ wm4):=hid (HT3.out.trans hT)
 clear hG hT
 go_wp2_with fail
 refine(HC4.out p _ _ HG4.out).mono ?_
 rintro e wm5 ⟨rfl,hG,hT⟩
 have HG5:=hid hG
 have HT5:Hid (Touch (inG p) _ wm5):=hid (HT4.out.trans hT)
 clear hG hT
 go_wp2_with fail
 go_ret
 exact⟨rfl,HG5.out.fG rfl (by dsimp only;omega),HT5.out⟩
set_option maxHeartbeats 1000000 in
theorem zi{k f n s:Int}{b:Bool}(h0:0≤k)(hk:k<(c.N:Int))(hm:c.May)(hn:n≤s)(C1:Run c 40 [] zs d1 zs1 (.tuple #[.int .i64 k,.int .i64 f]))(C2:Run c 15 [.int .i64 (k+1)] zs1 d2 zs2 (.bool true))(C3:Run c 16 [.int .i64 (k+1)] zs2 d3 zs3 (.bool false))(C4:Run c 106 [.int .i64 (k+1)] zs3 d4 zs4 (.tuple #[]))(C5:Run c 60 [.int .i64 (k+1)] zs4 d5 zs5 (.int .i64 n))(C6:Run c 107 [.int .i64 (k+1)] zs5 d6 zs6 (.int .i64 s))(C7:Run c 43 [.int .i64 (k+1),.int .i64 f] zs6 d7 zs7 (.bool b)):Run c 48 [] zs (d1+d2+d3+d4+d5+d6+d7) zs7 (.bool b):=fun p m w hG=>by
 have hfc:=cfield0 (c.N:Int) (c.W:Int) (c.R:Int) (c.K:Int)
 have hmn:=hm.n
 have hkn:¬(c.N:Int)≤k:=by omega
 have hw1:IntKind.i64.wrap (k+1)=k+1:=IntWalk.i64_in _ (by omega)
 clear hm hmn
 have hns:¬s<n:=by omega
 have HG:=hid hG
 have HC1:=hid C1
 have HC2:=hid C2
 have HC3:=hid C3
 have HC4:=hid C4
 have HC5:=hid C5
 have HC6:=hid C6
 have HC7:=hid C7
 clear hG C1 C2 C3 C4 C5 C6 C7
 go_enter Tryz.func48,Tryz.ntmps48
 have HT0:Hid (Touch (inG p) w w):=hid (Touch.refl _ _)
 go_wp2_with fail
 refine(HC1.out p _ _ HG.out).mono ?_
 rintro e wm1 ⟨rfl,hG,hT⟩
 have HG1:=hid hG
 have HT1:Hid (Touch (inG p) _ wm1):=hid (HT0.out.trans hT)
 clear hG hT
 go_wp2_with fail
 refine(dw p c _ _ HG1.out).mono ?_
 rintro e wm2 ⟨rfl,hb⟩
 have HG2:=hid (HG1.out.later hb)
 have HT2:Hid (Touch (inG p) _ wm2):=hid (HT1.out.trans (Touch.of_below hb))
 clear hb
 go_wp2_with fail
 refine(HC2.out p _ _ HG2.out).mono ?_
 rintro e wm3 ⟨rfl,hG,hT⟩
 have HG3:=hid hG
 have HT3:Hid (Touch (inG p) _ wm3):=hid (HT2.out.trans hT)
 clear hG hT
 go_wp2_with fail
 refine(HC3.out p _ _ HG3.out).mono ?_
 rintro e wm4 ⟨rfl,hG,hT⟩
 have HG4:=hid hG
 have HT4:Hid (Touch (inG p) _ wm4):=hid (HT3.out.trans hT)
 clear hG hT
 go_wp2_with fail
 refine(HC4.out p _ _ HG4.out).mono ?_
 rintro e wm5 ⟨rfl,hG,hT⟩
 have HG5:=hid hG
 have HT5:Hid (Touch (inG p) _ wm5):=hid (HT4.out.trans hT)
 clear hG hT
 go_wp2_with fail
 refine(HC5.out p _ _ HG5.out).mono ?_
 rintro e wm6 ⟨rfl,hG,hT⟩
 have HG6:=hid hG
 have HT6:Hid (Touch (inG p) _ wm6):=hid (HT5.out.trans hT)
 clear hG hT
 go_wp2_with fail
 refine(HC6.out p _ _ HG6.out).mono ?_
 rintro e wm7 ⟨rfl,hG,hT⟩
 have HG7:=hid hG
 have HT7:Hid (Touch (inG p) _ wm7):=hid (HT6.out.trans hT)
 clear hG hT
 go_wp2_with fail
 refine(HC7.out p _ _ HG7.out).mono ?_
 rintro e wm8 ⟨rfl,hG,hT⟩
 have HG8:=hid hG
 have HT8:Hid (Touch (inG p) _ wm8):=hid (HT7.out.trans hT)
 clear hG hT
 go_wp2_with fail
 go_ret
 exact⟨rfl,HG8.out.fG rfl (by dsimp only;omega),HT8.out⟩
set_option maxHeartbeats 1000000 in
theorem BD{k f n s:Int}{b b2:Bool}(h0:0≤k)(hk:k<(c.N:Int))(hm:c.May)(hn:s<n)(C1:Run c 40 [] zs d1 zs1 (.tuple #[.int .i64 k,.int .i64 f]))(C2:Run c 15 [.int .i64 (k+1)] zs1 d2 zs2 (.bool true))(C3:Run c 16 [.int .i64 (k+1)] zs2 d3 zs3 (.bool false))(C4:Run c 106 [.int .i64 (k+1)] zs3 d4 zs4 (.tuple #[]))(C5:Run c 60 [.int .i64 (k+1)] zs4 d5 zs5 (.int .i64 n))(C6:Run c 107 [.int .i64 (k+1)] zs5 d6 zs6 (.int .i64 s))(C7:Run c 88 [.int .i64 (k+1)] zs6 d7 zs7 (.bool b2))(C8:Run c 43 [.int .i64 (k+1),.int .i64 f] zs7 d8 zs8 (.bool b)):Run c 48 [] zs (d1+d2+d3+d4+d5+d6+d7+d8) zs8 (.bool b):=fun p m w hG=>by
 have hfc:=cfield0 (c.N:Int) (c.W:Int) (c.R:Int) (c.K:Int)
 have hmn:=hm.n
 have hkn:¬(c.N:Int)≤k:=by omega
 have hw1:IntKind.i64.wrap (k+1)=k+1:=IntWalk.i64_in _ (by omega)
 clear hm hmn
 have HG:=hid hG
 have HC1:=hid C1
 have HC2:=hid C2
 have HC3:=hid C3
 have HC4:=hid C4
 have HC5:=hid C5
 have HC6:=hid C6
 have HC7:=hid C7
 have HC8:=hid C8
 clear hG C1 C2 C3 C4 C5 C6 C7 C8
 go_enter Tryz.func48,Tryz.ntmps48
 have HT0:Hid (Touch (inG p) w w):=hid (Touch.refl _ _)
 go_wp2_with fail
 refine(HC1.out p _ _ HG.out).mono ?_
 rintro e wm1 ⟨rfl,hG,hT⟩
 have HG1:=hid hG
 have HT1:Hid (Touch (inG p) _ wm1):=hid (HT0.out.trans hT)
 clear hG hT
 go_wp2_with fail
 refine(dw p c _ _ HG1.out).mono ?_
 rintro e wm2 ⟨rfl,hb⟩
 have HG2:=hid (HG1.out.later hb)
 have HT2:Hid (Touch (inG p) _ wm2):=hid (HT1.out.trans (Touch.of_below hb))
 clear hb
 go_wp2_with fail
 refine(HC2.out p _ _ HG2.out).mono ?_
 rintro e wm3 ⟨rfl,hG,hT⟩
 have HG3:=hid hG
 have HT3:Hid (Touch (inG p) _ wm3):=hid (HT2.out.trans hT)
 clear hG hT
 go_wp2_with fail
 refine(HC3.out p _ _ HG3.out).mono ?_
 rintro e wm4 ⟨rfl,hG,hT⟩
 have HG4:=hid hG
 have HT4:Hid (Touch (inG p) _ wm4):=hid (HT3.out.trans hT)
 clear hG hT
 go_wp2_with fail
 refine(HC4.out p _ _ HG4.out).mono ?_
 rintro e wm5 ⟨rfl,hG,hT⟩
 have HG5:=hid hG
 have HT5:Hid (Touch (inG p) _ wm5):=hid (HT4.out.trans hT)
 clear hG hT
 go_wp2_with fail
 refine(HC5.out p _ _ HG5.out).mono ?_
 rintro e wm6 ⟨rfl,hG,hT⟩
 have HG6:=hid hG
 have HT6:Hid (Touch (inG p) _ wm6):=hid (HT5.out.trans hT)
 clear hG hT
 go_wp2_with fail
 refine(HC6.out p _ _ HG6.out).mono ?_
 rintro e wm7 ⟨rfl,hG,hT⟩
 have HG7:=hid hG
 have HT7:Hid (Touch (inG p) _ wm7):=hid (HT6.out.trans hT)
 clear hG hT
 go_wp2_with fail
 refine(HC7.out p _ _ HG7.out).mono ?_
 rintro e wm8 ⟨rfl,hG,hT⟩
 have HG8:=hid hG
 have HT8:Hid (Touch (inG p) _ wm8):=hid (HT7.out.trans hT)
 clear hG hT
 go_wp2_with fail
 refine(HC8.out p _ _ HG8.out).mono ?_
 rintro e wm9 ⟨rfl,hG,hT⟩
 have HG9:=hid hG
 have HT9:Hid (Touch (inG p) _ wm9):=hid (HT8.out.trans hT)
 clear hG hT
 go_wp2_with fail
 go_ret
 exact⟨rfl,HG9.out.fG rfl (by dsimp only;omega),HT9.out⟩
set_option maxHeartbeats 1000000 in
theorem uM{v:Int}(hv:v≠2)(C1:Run c 12 [] zs d1 zs1 (.int .i64 v)):Run c 13 [] zs (d1) zs1 (.bool false):=fun p m w hG=>by
 have hvb:(v==2)=false:=by rw[beq_eq_false_iff_ne];exact hv
 clear hv
 have HG:=hid hG
 have HC1:=hid C1
 clear hG C1
 go_enter Tryz.func13,Tryz.ntmps13
 have HT0:Hid (Touch (inG p) w w):=hid (Touch.refl _ _)
 go_wp2_with fail
 refine(HC1.out p _ _ HG.out).mono ?_
 rintro e wm1 ⟨rfl,hG,hT⟩
 have HG1:=hid hG
 have HT1:Hid (Touch (inG p) _ wm1):=hid (HT0.out.trans hT)
 clear hG hT
 go_wp2_with fail
 go_ret
 exact⟨rfl,HG1.out,HT1.out⟩
set_option maxHeartbeats 1000000 in
theorem xm(C1:Run c 12 [] zs d1 zs1 (.int .i64 2))(C2:Run c 46 [] zs1 d2 zs2 (.bool true)):Run c 13 [] zs (d1+d2) zs2 (.bool true):=fun p m w hG=>by
 have HG:=hid hG
 have HC1:=hid C1
 have HC2:=hid C2
 clear hG C1 C2
 go_enter Tryz.func13,Tryz.ntmps13
 have HT0:Hid (Touch (inG p) w w):=hid (Touch.refl _ _)
 go_wp2_with fail
 refine(HC1.out p _ _ HG.out).mono ?_
 rintro e wm1 ⟨rfl,hG,hT⟩
 have HG1:=hid hG
 have HT1:Hid (Touch (inG p) _ wm1):=hid (HT0.out.trans hT)
 clear hG hT
 go_wp2_with fail
 refine(HC2.out p _ _ HG1.out).mono ?_
 rintro e wm2 ⟨rfl,hG,hT⟩
 have HG2:=hid hG
 have HT2:Hid (Touch (inG p) _ wm2):=hid (HT1.out.trans hT)
 clear hG hT
 go_wp2_with fail
 go_ret
 exact⟨rfl,HG2.out.fG rfl (by dsimp only;omega),HT2.out⟩
set_option maxHeartbeats 1000000 in
theorem si(C1:Run c 12 [] zs d1 zs1 (.int .i64 2))(C2:Run c 46 [] zs1 d2 zs2 (.bool false))(C3:Run c 47 [] zs2 d3 zs3 (.bool true)):Run c 13 [] zs (d1+d2+d3) zs3 (.bool true):=fun p m w hG=>by
 have HG:=hid hG
 have HC1:=hid C1
 have HC2:=hid C2
 have HC3:=hid C3
 clear hG C1 C2 C3
 go_enter Tryz.func13,Tryz.ntmps13
 have HT0:Hid (Touch (inG p) w w):=hid (Touch.refl _ _)
 go_wp2_with fail
 refine(HC1.out p _ _ HG.out).mono ?_
 rintro e wm1 ⟨rfl,hG,hT⟩
 have HG1:=hid hG
 have HT1:Hid (Touch (inG p) _ wm1):=hid (HT0.out.trans hT)
 clear hG hT
 go_wp2_with fail
 refine(HC2.out p _ _ HG1.out).mono ?_
 rintro e wm2 ⟨rfl,hG,hT⟩
 have HG2:=hid hG
 have HT2:Hid (Touch (inG p) _ wm2):=hid (HT1.out.trans hT)
 clear hG hT
 go_wp2_with fail
 refine(HC3.out p _ _ HG2.out).mono ?_
 rintro e wm3 ⟨rfl,hG,hT⟩
 have HG3:=hid hG
 have HT3:Hid (Touch (inG p) _ wm3):=hid (HT2.out.trans hT)
 clear hG hT
 go_wp2_with fail
 go_ret
 exact⟨rfl,HG3.out.fG rfl (by dsimp only;omega),HT3.out⟩
set_option maxHeartbeats 1000000 in
theorem nO{b:Bool}(C1:Run c 12 [] zs d1 zs1 (.int .i64 2))(C2:Run c 46 [] zs1 d2 zs2 (.bool false))(C3:Run c 47 [] zs2 d3 zs3 (.bool false))(C4:Run c 48 [] zs3 d4 zs4 (.bool b)):Run c 13 [] zs (d1+d2+d3+d4) zs4 (.bool b):=fun p m w hG=>by
 have HG:=hid hG
 have HC1:=hid C1
 have HC2:=hid C2
 have HC3:=hid C3
 have HC4:=hid C4
 clear hG C1 C2 C3 C4
 go_enter Tryz.func13,Tryz.ntmps13
 have HT0:Hid (Touch (inG p) w w):=hid (Touch.refl _ _)
 go_wp2_with fail
 refine(HC1.out p _ _ HG.out).mono ?_
 rintro e wm1 ⟨rfl,hG,hT⟩
 have HG1:=hid hG
 have HT1:Hid (Touch (inG p) _ wm1):=hid (HT0.out.trans hT)
 clear hG hT
 go_wp2_with fail
 refine(HC2.out p _ _ HG1.out).mono ?_
 rintro e wm2 ⟨rfl,hG,hT⟩
 have HG2:=hid hG
 have HT2:Hid (Touch (inG p) _ wm2):=hid (HT1.out.trans hT)
 clear hG hT
 go_wp2_with fail
 refine(HC3.out p _ _ HG2.out).mono ?_
 rintro e wm3 ⟨rfl,hG,hT⟩
 have HG3:=hid hG
 have HT3:Hid (Touch (inG p) _ wm3):=hid (HT2.out.trans hT)
 clear hG hT
 go_wp2_with fail
 refine(HC4.out p _ _ HG3.out).mono ?_
 rintro e wm4 ⟨rfl,hG,hT⟩
 have HG4:=hid hG
 have HT4:Hid (Touch (inG p) _ wm4):=hid (HT3.out.trans hT)
 clear hG hT
 go_wp2_with fail
 go_ret
 exact⟨rfl,HG4.out.fG rfl (by dsimp only;omega),HT4.out⟩
end
section
variable {w w':World} {lo:Nat} {lab:Nat→Nat} {a:WA} {D:Wd} {i:Nat} {t t':Th} {x:TA} {n v b:Nat} {cl:List Nat} {ts:List Th}
theorem WAt.ringNew{w1:World}(h:WAt w lo lab a D)(hb:Below w.heap.size w w1){ra:Option Addr}(rc:Nat){l:List Nat}(hr:Row w1 .i64 ra (ints l))(hf:∀b off,ra=some ⟨b,off,none⟩→w.heap.size≤b):
  ∃lab',WAt (w1.setCell ⟨a.q,11,none⟩ (.slice ra l.length rc)) lo lab' {a with ra:=ra,rc:=rc} {D with ring:=l}:=by
 have hlo:lo≤w.heap.size:=Nat.le_of_lt (Nat.lt_of_le_of_lt h.lq.1 h.wb.lt)
 obtain⟨lab',h1,h2⟩:=sW (lab:=lab) hr hf hlo 5
 exact⟨lab',((h.re h1).later hb).DN hr h2⟩
theorem WAt.graveNew{w1:World}(h:WAt w lo lab a D)(hb:Below w.heap.size w w1){ga:Option Addr}(gc:Nat){l:List Nat}(hr:Row w1 .i64 ga (ints l))(hf:∀b off,ga=some ⟨b,off,none⟩→w.heap.size≤b):
  ∃lab',WAt (w1.setCell ⟨a.q,12,none⟩ (.slice ga l.length gc)) lo lab' {a with ga:=ga,gc:=gc} {D with grave:=l}:=by
 have hlo:lo≤w.heap.size:=Nat.le_of_lt (Nat.lt_of_le_of_lt h.lq.1 h.wb.lt)
 obtain⟨lab',h1,h2⟩:=sW (lab:=lab) hr hf hlo 6
 exact⟨lab',((h.re h1).later hb).Ai hr h2⟩
end
end Go.Proofs.YtofhdfjkhfkhiaaGreat.Pk
