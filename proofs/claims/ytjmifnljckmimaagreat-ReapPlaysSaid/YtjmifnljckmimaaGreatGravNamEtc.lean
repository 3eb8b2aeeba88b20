/-
  Texts laid together: GravNam, GravCnt, GraveLaw, GravGrow, GravNamed, TallyFn, RefG, RefG2, LinkW, LinkFn.
-/
import Derived.Test.YtjmifnljckmimaaGreatActsWzEtc
import Derived.Test.YtjmifnljckmimaaGreatRefMkEtc
import Derived.Test.YtjmifnljckmimaaGreatTintFn4Etc
import Derived.Test.YtjmifnljckmimaaGreatPoolFnEtc
import Derived.Test.YtjmifnljckmimaaGreatRingFn3Etc
import Derived.Test.YtjmifnljckmimaaGreatObjFn4Etc
namespace Go.Proofs.YtjmifnljckmimaaGreat.Pk
open Lib (hid)
open Go.RowKit
set_option linter.unusedVariables false
set_option linter.unusedSimpArgs false
set_option maxRecDepth 100000
section
variable {D D':Wd} {r:Int} {t s u:Th} {g:Th→Th} {φ:Th→Nat}
theorem Bg{f g:Th→Th}(hf:∀t,(f t).ended=t.ended∧(f t).h=t.h):∀l:List Th,bJ r g (bJ r f l)=bJ r (fun t=>g (f t)) l
 |[]=>rfl
 |u::l=>by
  have hat:(f u).at r=u.at r:=by unfold Th.at;rw[(hf u).1,(hf u).2]
  simp only[bJ]
  cases h:u.at r with
  |true=>simp[bJ,hat,h]
  |false=>simp[bJ,h,Bg hf l]
theorem qQ(r:Int){f:cz→cz}(h:∀t:Th,φ {t with mr:=f t.mr}=φ t):bS φ (D.mark r f).ts=bS φ D.ts:=by
 cases hf:D.find r with
 |none=>rw[dJ f hf]
 |some t=>
  have:=nH (φ:=φ) (g:=fun t=>{t with mr:=f t.mr}) (t:=t) hf (df hf).2.1
  rw[h] at this
  show bS φ (bJ r (fun t=>{t with mr:=f t.mr}) D.ts)=_
  omega
theorem Kj(i:Nat)(x:Int):(D.drain r i x).w=D.w∧(D.drain r i x).n=D.n∧(D.drain r i x).clean=D.clean:=by
 have key:∀D2:Wd,(if(D2.down x).cnt x=0 then(D2.down x).bU x else D2.down x).w=D2.w∧(if(D2.down x).cnt x=0 then(D2.down x).bU x else D2.down x).n=D2.n∧(if(D2.down x).cnt x=0 then(D2.down x).bU x else D2.down x).clean=D2.clean:=fun D2=>by
  split
  ·exact⟨(uB x).2.2,(uB x).2.1,(uB x).1⟩
  ·exact⟨rfl,rfl,rfl⟩
 unfold Wd.drain
 by_cases hc:(D.ay r i 0).cnt x=0
 ·rw[if_pos hc];exact⟨rfl,rfl,rfl⟩
 ·rw[if_neg hc]
  obtain⟨k1,k2,k3⟩:=key (if(D.ay r i 0).counted r i then(D.ay r i 0).aI x else D.ay r i 0)
  refine⟨k1.trans ?_,k2.trans ?_,k3.trans ?_⟩<;>split<;>first|rfl|exact(iH (D:=D.ay r i 0) x).2.2.2.2.2.2|exact(iH (D:=D.ay r i 0) x).2.2.2.2.2.1|exact(iH (D:=D.ay r i 0) x).2.2.2.2.1
theorem zZ(S:San D){l:Int}(h:0<l):D.ahead l=(l-1)*((D.w:Int)-1):=by unfold Wd.ahead;rw[if_pos h]
theorem ahead_zero:D.ahead 0=0:=by unfold Wd.ahead;rw[if_neg (by omega)];omega
theorem San.head(S:San D){q:Nat}{rest:List Nat}(hg:D.grave=q::rest):∃t,t∈D.live∧t.h+1=q∧D.find (q:Int)=some t∧t.mr.dead=true∧Wj D.w t∧D.step=D.work q rest t:=by
 obtain⟨t,htl,e⟩:=S.gv q (by rw[hg];simp)
 have hf:D.find (q:Int)=some t:=by have:=S.ja htl;rwa[show((t.h:Int)+1)=(q:Int) by omega] at this
 have hk:=S.ok t htl
 have hd:t.mr.dead=true:=hk.iff_.2 (by rw[e,hg];simp)
 refine⟨t,htl,e,hf,hd,hk.dead hd,?_⟩
 unfold Wd.step
 rw[hg]
 simp only[hf]
theorem Ef(r:Int)(j b:Nat)(k:Int):((D.gV r j b).mark r (fun m=>{m with leaves:=k})).ts=bJ r (fun s=>{s with lv:=s.lv.set j (-1),mr:={s.mr with leaves:=k}}) D.ts:=
 Bg (f:=fun t=>{t with lv:=t.lv.set j (-1)}) (g:=fun t=>{t with mr:={t.mr with leaves:=k}}) (fun _=>⟨rfl,rfl⟩) D.ts
theorem San.step(S:San D):San D.step:=by
 cases hg:D.grave with
 |nil=>unfold Wd.step;rw[hg];exact S
 |cons q rest=>
  obtain⟨t,htl,e,hf,hd,d,es⟩:=S.head hg
  have hk:=S.ok t htl
  have hw:=S.w
  rw[es]
  unfold Wd.work
  by_cases ha:D.ahead t.mr.leaves<t.mr.left
  ·have h0:0≤D.ahead t.mr.leaves:=by
    unfold Wd.ahead
    refine Int.mul_nonneg ?_ (by omega)
    split<;>omega
   rw[if_pos ha]
   have S1:=S.drain hf (t.mr.left-1).toNat (nth t.pt (t.mr.left-1).toNat)
   obtain⟨f,hf1,k1,k2,k3⟩:=rV hf hd (t.mr.left-1).toNat (nth t.pt (t.mr.left-1).toNat)
   have hw1:=(Kj (D:=D) (r:=(q:Int)) (t.mr.left-1).toNat (nth t.pt (t.mr.left-1).toNat)).1
   have kk:=S1.ok _ (ax hf1).1
   refine S1.upd (g:=fun s=>{s with mr:={s.mr with left:=t.mr.left-1}}) hf1 (df hf1).2.1 rfl rfl rfl rfl ⟨⟨kk.uz.small,kk.uz.big⟩,kk.iff_,fun _=> ?_,fun h=>by rw[show _=true from k1] at h;cases h⟩ (fun b hb=>.inl hb) rfl
   have dd:=kk.dead k1
   refine⟨dd.l0,dd.l1,?_,?_,fun hl=> ?_,dd.there,dd.gone,fun i hi=> ?_⟩
   ·show 0≤t.mr.left-1;omega
   ·show t.mr.left-1≤_
    have:=dd.f1
    have e2:(f t.mr).left=t.mr.left:=k2
    have e3:(f t.mr).left≤((t.pt.set (t.mr.left-1).toNat 0).length:Int):=this
    rw[e2] at e3
    show t.mr.left-1≤((t.pt.set (t.mr.left-1).toNat 0).length:Int)
    omega
   ·have h1:=dd.fl hl
    have h2:(f t.mr).left≤(f t.mr).leaves*(((D.drain (q:Int) (t.mr.left-1).toNat (nth t.pt (t.mr.left-1).toNat)).w:Int)-1):=h1
    rw[k2] at h2
    show t.mr.left-1≤(f t.mr).leaves*_
    omega
   ·have hi':t.mr.left-1≤(i:Int):=hi
    show nth (t.pt.set (t.mr.left-1).toNat 0) i=0
    by_cases ei:(t.mr.left-1).toNat=i
    ·rw[ei]
     by_cases hlt:i<t.pt.length
     ·rw[bf hlt]
     ·rw[dV (by simp;omega)]
    ·rw[av ei]
     exact d.zero i (by omega)
  ·rw[if_neg ha]
   by_cases hl:0<t.mr.leaves
   ·rw[if_pos hl]
    have hp:dG t=1+t.mr.leaves.toNat:=by unfold dG;rw[hd,if_pos rfl]
    have hlen:((t.mr.leaves-1).toNat:Nat)<t.lv.length:=by have:=d.l1;omega
    have hfl:t.mr.left≤(t.mr.leaves-1)*((D.w:Int)-1):=by rw[←zZ S hl];omega
    refine S.upd (g:=fun s=>{s with lv:=s.lv.set (t.mr.leaves-1).toNat (-1),mr:={s.mr with leaves:=t.mr.leaves-1}}) hf (df hf).2.1 rfl (Ef _ _ _ _) rfl rfl ⟨⟨fun h=> ?_,fun h=> ?_⟩,hk.iff_,fun _=>⟨?_,?_,d.f0,d.f1,fun _=>hfl,fun j hj=> ?_,fun j hj hj2=> ?_,d.zero⟩,fun h=>by rw[show _=true from hd] at h;cases h⟩ (fun b hb=>.inl hb) ?_
    ·have:=hk.uz.small h
     rw[this] at hlen
     simp at hlen
    ·have:=hk.uz.big h
     refine⟨?_,by simpa using this.2⟩
     show t.lv.set (t.mr.leaves-1).toNat (-1)≠[]
     intro hx
     have:=congrArg List.length hx
     simp at this
     rw[this] at hlen
     simp at hlen
    ·show 0≤t.mr.leaves-1;omega
    ·show t.mr.leaves-1≤((t.lv.set (t.mr.leaves-1).toNat (-1)).length:Int)
     have:=d.l1
     simp
     omega
    ·have hj':(j:Int)<t.mr.leaves-1:=hj
     show ∃b:Nat,(t.lv.set (t.mr.leaves-1).toNat (-1))[j]? =some (b:Int)
     rw[List.getElem?_set_ne (by omega)]
     exact d.there j (by omega)
    ·have hj':t.mr.leaves-1≤(j:Int):=hj
     have hj2':j<t.lv.length:=by simpa using hj2
     show(t.lv.set (t.mr.leaves-1).toNat (-1))[j]? =some (-1)
     by_cases ej:(t.mr.leaves-1).toNat=j
     ·rw[ej,List.getElem?_set_self hj2']
     ·rw[List.getElem?_set_ne ej]
      exact d.gone j (by omega) hj2'
    ·have hp2:dG ({t with lv:=t.lv.set (t.mr.leaves-1).toNat (-1),mr:={t.mr with leaves:=t.mr.leaves-1}})=1+(t.mr.leaves-1).toNat:=by
      unfold dG
      simp[hd]
     show D.pending-1+(dG t:Int)=D.pending+(dG ({t with lv:=t.lv.set (t.mr.leaves-1).toNat (-1),mr:={t.mr with leaves:=t.mr.leaves-1}}):Int)
     rw[hp,hp2]
     omega
   ·rw[if_neg hl]
    have hl0:t.mr.leaves=0:=by have:=d.l0;omega
    have hlive:(({D with grave:=rest}:Wd).ky (q:Int) t.h).live=D.live.filter (fun s=>s.h !=t.h):=jD (g:=fun s=>{s with ended:=true}) (fun _=>rfl) S.nd hf
    have hmem:∀s,s∈D.live.filter (fun s=>s.h !=t.h)→s∈D.live∧s.h≠t.h:=fun s hs=>by
     have:=List.mem_filter.1 hs
     exact⟨this.1,by simpa using this.2⟩
    have hnd:=S.gd
    rw[hg,List.nodup_cons] at hnd
    have hsum:=Gi (φ:=dG) (g:=fun s=>{s with ended:=true}) hf rfl
    have hp:dG t=1:=by unfold dG;rw[hd,if_pos rfl,hl0];rfl
    show San {({D with grave:=rest}:Wd).ky (q:Int) t.h with pending:=D.pending-1}
    refine⟨S.w,?_,hnd.2,fun g hg'=> ?_,fun s hs=> ?_,fun s hs hr=> ?_,?_⟩
    ·show((({D with grave:=rest}:Wd).ky (q:Int) t.h).live.map Th.h).Nodup
     rw[hlive]
     exact S.nd.sublist (List.Sublist.map _ List.filter_sublist)
    ·obtain⟨u,hu,e2⟩:=S.gv g (by rw[hg];exact List.mem_cons_of_mem _ hg')
     refine⟨u,?_,e2⟩
     show u∈(({D with grave:=rest}:Wd).ky (q:Int) t.h).live
     rw[hlive]
     refine List.mem_filter.2 ⟨hu,?_⟩
     have:u.h≠t.h:=fun ex=>hnd.1 (by rw[←e,←ex,e2];exact hg')
     simpa using this
    ·have hs':s∈(({D with grave:=rest}:Wd).ky (q:Int) t.h).live:=hs
     rw[hlive] at hs'
     obtain⟨h1,h2⟩:=hmem s hs'
     have k:=S.ok s h1
     refine⟨k.uz,?_,k.dead,k.alive⟩
     show s.mr.dead=true↔s.h+1∈rest
     rw[k.iff_,hg,List.mem_cons]
     exact⟨fun h=>by rcases h with h|h;exact absurd (by omega) h2;exact h,fun h=>.inr h⟩
    ·have hs':s∈(({D with grave:=rest}:Wd).ky (q:Int) t.h).live:=hs
     rw[hlive] at hs'
     exact S.ring s (hmem s hs').1 hr
    ·show D.pending-1=(bS dG (bJ (q:Int) (fun s=>{s with ended:=true}) D.ts):Int)
     have:=S.pend
     omega
end
def QL(y:Int):List Int→Nat
 |[]=>0
 |a::l=>(if a=y then 1 else 0)+QL y l
def SK(y:Int)(t:Th):Nat:=QL y t.pt
structure Br (hold:Nat→Nat) (D:Wd):Prop where
 cnt:∀t,t∈D.live→t.mr.refs=((hold t.h+bS (SK ((t.h:Int)+1)) D.ts:Nat):Int)
 good:∀t,t∈D.live→∀i,i<t.pt.length→nth t.pt i=0∨∃u,u∈D.live∧(u.h:Int)+1=nth t.pt i
 kH:∀t,t∈D.live→t.mr.dead=true→t.mr.refs=0
section
variable {D D':Wd} {r:Int} {t s u:Th} {hold:Nat→Nat}
theorem Br.of(N:Br hold D)(h1:∀s,s∈D'.live→∃u,u∈D.live∧s.h=u.h∧s.mr.refs=u.mr.refs∧s.pt=u.pt∧(s.mr.dead=true→u.mr.dead=true∨u.mr.refs=0))(h2:D'.live.map Th.h=D.live.map Th.h)(h3:∀y,bS (SK y) D'.ts=bS (SK y) D.ts):Br hold D':=by
 refine⟨fun s hs=> ?_,fun s hs i hi=> ?_,fun s hs hd=> ?_⟩
 ·obtain⟨u,hu,e1,e2,e3,e4⟩:=h1 s hs
  rw[e1,e2,h3]
  exact N.cnt u hu
 ·obtain⟨u,hu,e1,e2,e3,e4⟩:=h1 s hs
  rw[e3] at hi ⊢
  rcases N.good u hu i hi with h|⟨v,hv,h⟩
  ·exact .inl h
  ·obtain⟨v',k1,k2⟩:=kr h2 hv
   exact .inr ⟨v',k1,by rw[k2];exact h⟩
 ·obtain⟨u,hu,e1,e2,e3,e4⟩:=h1 s hs
  rw[e2]
  rcases e4 hd with h|h
  ·exact N.kH u hu h
  ·exact h
theorem IX(r:Int)(f:cz→cz):(D.mark r f).live.map Th.h=D.live.map Th.h:=by
 cases hf:D.find r with
 |none=>rw[dJ f hf]
 |some t=>exact mf (g:=fun t=>{t with mr:=f t.mr}) hf (df hf).2.1 rfl
theorem LW(S:San D){f:cz→cz}(hs:s∈(D.mark r f).live):∃u,u∈D.live∧(s=u∨s={u with mr:=f u.mr}):=by
 cases hf:D.find r with
 |none=>rw[dJ f hf] at hs;exact⟨s,hs,.inl rfl⟩
 |some t=>
  rcases gP (g:=fun t=>{t with mr:=f t.mr}) S.nd hf hs with rfl|⟨h,_⟩
  ·exact⟨t,(ax hf).1,.inr rfl⟩
  ·exact⟨s,h,.inl rfl⟩
theorem Br.mark(N:Br hold D)(S:San D)(r:Int){f:cz→cz}(h1:∀m,(f m).refs=m.refs)(h2:∀m,(f m).dead=m.dead):Br hold (D.mark r f):=by
 refine N.of (fun s hs=> ?_) (IX r f) (fun y=>qQ r (fun t=>rfl))
 obtain⟨u,hu,rfl|rfl⟩:=LW S hs
 ·exact⟨s,hu,rfl,rfl,rfl,fun h=>.inl h⟩
 ·exact⟨u,hu,rfl,h1 _,rfl,fun h=>.inl (by rw[←h2];exact h)⟩
structure Vd (hold:Nat→Nat) (x:Int) (D:Wd):Prop where
 cnt:∀t,t∈D.live→t.mr.refs=((hold t.h+bS (SK ((t.h:Int)+1)) D.ts+(if(t.h:Int)+1=x then 1 else 0):Nat):Int)
 good:∀t,t∈D.live→∀i,i<t.pt.length→nth t.pt i=0∨∃u,u∈D.live∧(u.h:Int)+1=nth t.pt i
 kH:∀t,t∈D.live→t.mr.dead=true→t.mr.refs=0
 there:x=0∨∃u,u∈D.live∧(u.h:Int)+1=x
theorem Vd.none(N:Vd hold 0 D):Br hold D:=⟨fun t ht=>by have:=N.cnt t ht;rw[if_neg (by omega)] at this;simpa using this,N.good,N.kH⟩
end
theorem San.new(n:Nat){w:Nat}(h:16≤w):San (Wd.new n w):=⟨h,by simp[Wd.live,Wd.new,bP],by simp[Wd.new],fun g hg=>absurd hg (by simp[Wd.new]),fun t ht=>absurd ht (by simp[Wd.live,Wd.new,bP]),fun t ht=>absurd ht (by simp[Wd.live,Wd.new,bP]),rfl⟩
theorem wh{φ:Th→Nat}:∀(l k:List Th),bS φ (l++k)=bS φ l+bS φ k
 |[],k=>by simp[bS,bP]
 |u::l,k=>by rw[List.cons_append,dm,dm,wh l k];omega
theorem aG.uz{c:Cf}{zs:List Int}{D:Wd}{t:Th}(R:aG c zs D)(hm:c.May)(ht:t∈D.live):Geo D.w t:=by
 have hA:=R.heap.bZ t.ob (R.bN ht)
 have hw:=hm.w
 have hW:=R.w
 have ef:t.ob.f=t.pt.length+t.dt.length:=rfl
 have el:t.ob.lv.length=t.lv.length:=by unfold Th.ob;simp
 refine⟨fun h=> ?_,fun h=> ?_⟩
 ·have:=hA.small (by rw[ef];rw[hW] at h;exact h) hm
  have h2:t.lv.length=0:=by rw[←el,this];rfl
  exact List.length_eq_zero_iff.1 h2
 ·have hb:¬t.ob.f≤c.W-8:=by rw[ef];rw[hW] at h;exact h
  have hl:=hA.lvs
  obtain⟨_,_,h3,_⟩:=jR (W:=c.W) (n:=t.ob.f) (by omega) (by omega) (by omega) hA.size
  rw[←hl] at h3
  have h4:t.ob.f≤t.ob.lv.length*(c.W-1):=by
   have:((t.ob.lv.length*(c.W-1):Nat):Int)=(t.ob.lv.length:Int)*((c.W:Int)-1):=by rw[Int.natCast_mul];congr 1;omega
   omega
  rw[el,ef] at h4
  refine⟨fun e=> ?_,by rw[hW];exact h4⟩
  have h5:t.lv.length=0:=by rw[e];rfl
  rw[h5,Nat.zero_mul] at h4
  omega
theorem San.made{c:Cf}{zs:List Int}{D:Wd}{b np nd:Nat}{ls cl:List Nat}(S:San D)(R:aG c zs (D.made b ls cl np nd))(hm:c.May):San (D.made b ls cl np nd):=by
 have hlive:=jS (D:=D) (b:=b) (ls:=ls) (cl:=cl) (np:=np) (nd:=nd)
 have hg:(D.made b ls cl np nd).grave=D.grave:=rfl
 have hmem:∀t,t∈D.live→t∈(D.made b ls cl np nd).live:=fun t ht=>by rw[hlive];exact List.mem_append_left _ ht
 have hnew:(⟨b,ints ls,kH np,kH nd,false,cz.new⟩:Th)∈(D.made b ls cl np nd).live:=by rw[hlive];simp
 refine⟨S.w,R.nodup,S.gd,fun g hg=> ?_,fun t ht=> ?_,fun t ht hr=> ?_,?_⟩
 ·obtain⟨u,hu,e⟩:=S.gv g hg
  exact⟨u,hmem u hu,e⟩
 ·have hgeo:=R.uz hm ht
  rw[hlive] at ht
  rcases List.mem_append.1 ht with h|h
  ·have k:=S.ok t h
   exact⟨hgeo,k.iff_,k.dead,k.alive⟩
  ·obtain rfl:=List.mem_singleton.1 h
   refine⟨hgeo,⟨fun h=>(by cases h),fun h=> ?_⟩,fun h=>(by cases h),fun _ j hj=> ?_⟩
   ·have:=(R.bur _ hnew h).1
    exact this
   ·have hj':j<ls.length:=by simpa[ints] using hj
    exact⟨ls[j],by show(ints ls)[j]? =_;unfold ints;simp[hj']⟩
 ·rw[hlive] at ht
  rcases List.mem_append.1 ht with h|h
  ·exact S.ring t h hr
  ·obtain rfl:=List.mem_singleton.1 h
   rfl
 ·have h1:=S.pend
  have h2:bS dG (D.ts++[(⟨b,ints ls,kH np,kH nd,false,cz.new⟩:Th)])=bS dG D.ts:=by
   rw[wh,dm]
   simp[dG,cz.new,bS,bP]
  show D.pending=(bS dG (D.ts++[_]):Int)
  rw[h1,h2]
theorem San.kG{c:Cf}{D:Wd}{x y:Int}(S:San D){w wr:World}{p:Pl}(h:ic w p c (D.kG x y) wr):San (D.kG x y):=by
 obtain⟨zs,m,hG,hR,hp,hB⟩:=h
 unfold Wd.kG at hR ⊢
 split
 ·rename_i h0
  rw[if_pos h0] at hR
  exact S.made hR hG.may
 ·exact S
section
variable {D D':Wd} {r x:Int} {t s u:Th} {g:Th→Th} {f:cz→cz} {hold:Nat→Nat} {φ:Th→Nat} {c:Cf} {zs:List Int}
theorem qX(hg:∀t,(g t).h=t.h)(r:Int):∀l:List Th,(bJ r g l).map Th.h=l.map Th.h
 |[]=>rfl
 |u::l=>by
  unfold bJ
  split
  ·simp[hg]
  ·simp[qX hg r l]
theorem gI(r:Int)(f:cz→cz):(D.mark r f).ts.map Th.h=D.ts.map Th.h:=qX (g:=fun t=>{t with mr:=f t.mr}) (fun _=>rfl) r D.ts
theorem uh(r:Int)(i:Nat)(x:Int):(D.ay r i x).ts.map Th.h=D.ts.map Th.h:=qX (g:=fun t=>{t with pt:=t.pt.set i x}) (fun _=>rfl) r D.ts
theorem Kh(x:Int):(D.bU x).ts.map Th.h=D.ts.map Th.h:=by
 unfold Wd.bU
 cases D.find x with
 |none=>rfl
 |some t=>
  simp only
  split
  ·rfl
  ·rw[uM]
   exact qX (g:=fun s=>{s with mr:={s.mr with dead:=true,left:=(t.pt.length:Int),leaves:=(t.lv.length:Int)}}) (fun _=>rfl) x D.ts
theorem Oq(x:Int):(D.inter x).ts.map Th.h=D.ts.map Th.h:=by
 unfold Wd.inter
 split
 ·exact Kh x
 ·rfl
theorem II(x:Int):(D.aI x).ts.map Th.h=D.ts.map Th.h:=by
 unfold Wd.aI
 split
 ·exact gI x _
 ·rfl
theorem El(r:Int)(i:Nat)(x:Int):(D.drain r i x).ts.map Th.h=D.ts.map Th.h:=by
 have key:∀D2:Wd,D2.ts.map Th.h=D.ts.map Th.h→(if(D2.down x).cnt x=0 then(D2.down x).bU x else D2.down x).ts.map Th.h=D.ts.map Th.h:=fun D2 h=>by
  split
  ·rw[Kh];exact(gI x _).trans h
  ·exact(gI x _).trans h
 unfold Wd.drain
 by_cases hc:(D.ay r i 0).cnt x=0
 ·rw[if_pos hc];exact uh r i 0
 ·rw[if_neg hc]
  refine key _ ?_
  split
  ·rw[II];exact uh r i 0
  ·exact uh r i 0
theorem Sa:D.step.ts.map Th.h=D.ts.map Th.h:=by
 unfold Wd.step
 split
 ·rfl
 ·split
  ·rfl
  ·rename_i _ q rest _ _ t _
   unfold Wd.work
   split
   ·exact(gI _ _).trans (El _ _ _)
   ·split
    ·show((D.gV (q:Int) (t.mr.leaves-1).toNat (nth t.lv (t.mr.leaves-1).toNat).toNat).mark (q:Int) (fun m=>{m with leaves:=t.mr.leaves-1})).ts.map Th.h=_
     rw[gI]
     exact qX (g:=fun s=>{s with lv:=s.lv.set (t.mr.leaves-1).toNat (-1)}) (fun _=>rfl) _ D.ts
    ·exact qX (g:=fun s=>{s with ended:=true}) (fun _=>rfl) _ D.ts
theorem sN{h:Nat}:∀{l:List Th},(∀u,u∈l→u.h≠h)→bE ((h:Int)+1) l=none
 |[],_=>rfl
 |u::l,hn=>by
  unfold bE
  have h1:u.at ((h:Int)+1)=false:=by
   have:=hn u (by simp)
   unfold Th.at
   simp
   intro _ e
   omega
  rw[h1]
  exact sN (fun v hv=>hn v (List.mem_cons_of_mem _ hv))
theorem Km:∀{l:List Th},(l.map Th.h).Nodup→t∈l→bE ((t.h:Int)+1) l=if t.ended then none else some t
 |[],_,h=>by simp at h
 |u::l,hn,h=>by
  rw[List.map_cons,List.nodup_cons] at hn
  have hne:∀v,v∈l→v.h≠u.h:=fun v hv e=>hn.1 (e▸List.mem_map.2 ⟨v,hv,rfl⟩)
  rcases List.mem_cons.1 h with rfl|h
  ·unfold bE
   cases he:t.ended with
   |true=>
    have:t.at ((t.h:Int)+1)=false:=by unfold Th.at;simp[he]
    rw[this]
    simpa using sN hne
   |false=>
    have:t.at ((t.h:Int)+1)=true:=by unfold Th.at;simp[he]
    rw[this]
    simp
  ·have hut:=hne t h
   have:u.at ((t.h:Int)+1)=false:=by unfold Th.at;simp;intro _ e;omega
   unfold bE
   rw[this]
   exact Km hn.2 h
def Wd.yX(D:Wd):List Int:=D.ts.map (fun t=>(t.h:Int)+1)
theorem Ba:∀{l:List Th},(∀t,t∈bP l→φ t=0)→bS φ l=0
 |[],_=>rfl
 |u::l,h=>by
  rw[dm,Ba (fun t ht=>h t (by rw[aO];split;exact ht;exact List.mem_cons_of_mem _ ht))]
  cases hu:u.ended with
  |true=>simp
  |false=>simp;exact h u (by rw[aO,hu];simp)
theorem ER:∀{l:List Th},(∀t,t∈l→t.ended=false)→bP l=l
 |[],_=>rfl
 |u::l,h=>by rw[aO,h u (by simp),if_neg (by simp),ER (fun t ht=>h t (List.mem_cons_of_mem _ ht))]
structure SA (N:Nat) (D:Wd) (k:Nat):Prop where
 san:San D
 nam:Br (fun _=>0) D
 bd:∀y:Int,y≠0→bS (SK y) D.ts≤k
 gr:D.grave=[]
 nd:(D.ts.map Th.h).Nodup
 all:∀t,t∈D.ts→t.ended=false
 lt:∀t,t∈D.ts→t.h<N
theorem SA.upd{N k k2:Nat}(G:SA N D k)(S:San D')(Nm:Br (fun _=>0) D')(hb:∀y:Int,y≠0→bS (SK y) D'.ts≤k2)(hgr:D'.grave=[])(hhd:D'.ts.map Th.h=D.ts.map Th.h)(hall:∀t,t∈D'.ts→t.ended=false):SA N D' k2:=
 ⟨S,Nm,hb,hgr,by rw[hhd];exact G.nd,hall,fun t ht=>by
  have:t.h∈D.ts.map Th.h:=by rw[←hhd];exact List.mem_map.2 ⟨t,ht,rfl⟩
  obtain⟨u,hu,e⟩:=List.mem_map.1 this
  rw[←e]
  exact G.lt u hu⟩
theorem GQ(hg:∀t,(g t).ended=t.ended)(r:Int):∀{l:List Th},(∀t,t∈l→t.ended=false)→∀t,t∈bJ r g l→t.ended=false
 |[],_,t,ht=>by simp[bJ] at ht
 |u::l,h,t,ht=>by
  unfold bJ at ht
  split at ht
  ·rcases List.mem_cons.1 ht with rfl|ht
   ·rw[hg];exact h u (by simp)
   ·exact h t (List.mem_cons_of_mem _ ht)
  ·rcases List.mem_cons.1 ht with rfl|ht
   ·exact h t (by simp)
   ·exact GQ hg r (fun s hs=>h s (List.mem_cons_of_mem _ hs)) t ht
theorem SA.nQ{N k:Nat}(G:SA N D k)(r:Int):SA N (D.nQ r) k:=
 G.upd (G.san.mark r (fun _=>rfl) (fun _=>rfl) (fun _=>rfl)) (G.nam.mark G.san r (fun _=>rfl) (fun _=>rfl)) (fun y hy=>by
  have:bS (SK y) (D.nQ r).ts=bS (SK y) D.ts:=qQ r (fun t=>rfl)
  rw[this];exact G.bd y hy) G.gr (gI r _) (GQ (g:=fun t=>{t with mr:={t.mr with color:=D.parity,count:=D.parity,shade:=D.parity,shadow:=0}}) (fun _=>rfl) r G.all)
theorem SA.at{N k:Nat}(G:SA N D k){j:Nat}(hj:j<D.yX.length):∃t,t∈D.live∧nth D.yX j=(t.h:Int)+1∧D.find (nth D.yX j)=some t:=by
 have hl:j<D.ts.length:=by unfold Wd.yX at hj;simpa using hj
 have e:nth D.yX j=(D.ts[j].h:Int)+1:=by
  unfold nth Wd.yX
  rw[List.getD_eq_getElem?_getD]
  simp[hl]
 have hm:D.ts[j]∈D.live:=by unfold Wd.live;rw[ER G.all];exact List.getElem_mem hl
 refine⟨D.ts[j],hm,e,?_⟩
 rw[e]
 exact G.san.ja hm
end
section
variable {c:Cf} {D:Wd} {t u:Th} {r x:Int} {w wr:World} {p:Pl} {zs:List Int}
theorem Ww.field{v:Nat}(hm:c.May)(hw:c.W=v)(a:Ww t)(g:Geo v t){i:Nat}(hi:i<t.pt.length):∃q,bg c t.ob i=some q:=by
 have hW:=hm.w
 have ef:t.ob.f=t.pt.length+t.dt.length:=rfl
 by_cases hs:t.ob.f≤c.W-8
 ·exact⟨_,by unfold bg;rw[kT hs];rfl⟩
 ·obtain⟨_,h2⟩:=g.big (by rw[←hw];omega)
  have hq:i/(c.W-1)<t.lv.length:=by
   rw[Nat.div_lt_iff_lt_mul (by omega)]
   rw[←hw] at h2
   omega
  obtain⟨b,hb⟩:=a (i/(c.W-1)) hq
  exact⟨_,by unfold bg;rw[lK hs (KC hb)];rfl⟩
theorem jq(hm:c.May)(R:aG c zs D)(hf:D.find r=some t):In64 r:=by
 obtain⟨htl,e⟩:=ax hf
 rw[←e]
 exact R.heap.EI hm (R.bN htl)
theorem Oc(S:San D)(hf:D.find r=some t)(hd:t.mr.dead=false)(i:Nat):Does c D 70 [.int .i64 r,.int .i64 (i:Int)] 12 D (.tuple #[.int .i64 (nth t.pt i),.int .i64 (if i<t.pt.length then 0 else 7)]):=fun zs hz R=>by
 obtain⟨htl,e⟩:=ax hf
 have hr:=jq hz.may R hf
 by_cases hi:i<t.pt.length
 ·obtain⟨a,ha⟩:=((S.ok t htl).alive hd).field hz.may R.w.symm (S.ok t htl).uz hi
  obtain⟨⟨d,hd,C⟩,_,_⟩:=tV hz R hr hf hi ha
  rw[if_pos hi]
  exact⟨zs,⟨d,hd,C⟩,R⟩
 ·have h:=kL.ptr c zs D.clean D.bZ r i hz R.heap hr
  have hob:=fw R r
  rw[hf] at hob
  have hob:eT D.bZ r=some t.ob:=hob
  have hb:kR (i:Int) t.ob.np=false:=by
   unfold kR
   have:t.ob.np=t.pt.length:=rfl
   simp
   omega
  have e1:ry c zs D.bZ r (i:Int)=nth t.pt i:=by
   unfold ry
   rw[hob]
   simp only[hb]
   rw[dV (by omega)]
   rfl
  have e2:ru c D.bZ r (i:Int)=7:=by
   unfold ru
   rw[hob]
   simp[hb]
  rw[e1,e2] at h
  rw[if_neg hi]
  exact⟨zs,h,R⟩
theorem Vm(hf:D.find r=some t)(hb:t.mr.refs<4294967295):Does c D 72 [.int .i64 r] 8 (D.up r) (.tuple #[.int .i64 (t.mr.refs+1),.bool true]):=fun zs hz R=>by
 obtain⟨htl,rfl⟩:=ax hf
 have e3:nth zs (ai c t.ob.h 3)=t.mr.refs:=(R.own t htl).w3
 have h:=mZ.up_yes c zs D.clean D.bZ t.ob hz R.heap (R.bN htl) (by rw[e3];exact hb)
 rw[e3] at h
 exact⟨_,h,R.qp hz.may hz.len hf (v:=3) (.inl rfl) (x:=t.mr.refs+1) (f:=fun m=>{m with refs:=m.refs+1}) rfl⟩
theorem NZ(hr:In64 r):Does c D 49 [.int .i64 r] 12 D (.bool (D.find r).isSome):=fun zs hz R=>by
 have h:=kL.is_ c zs D.clean D.bZ r hz R.heap hr
 rw[fw R r,Option.isSome_map] at h
 exact⟨zs,h,R⟩
theorem Ip(hr:In64 r):Does c D 33 [.int .i64 r] 2 D (.int .i64 (D.cnt r)):=fun zs hz R=>by
 obtain⟨d,hd,C⟩:=Oa hz R hr
 exact⟨zs,⟨d,hd,C⟩,R⟩
theorem ic.total(h:ic w p c D wr)(S:San D):D.clean.length+bS tN D.ts=c.N:=by
 obtain⟨zs,m,hG,hR,_⟩:=h
 exact S.total hR
end
section
variable {c:Cf} {zs zs1 zs2 zs3 zs4 zs5 zs6 zs7 zs8:List Int} {d1 d2 d3 d4 d5 d6 d7 d8:Nat}
set_option maxHeartbeats 1000000 in
theorem Dt{r f n n2:Int}(hn:¬f<n)(C1:Run c 110 [.int .i64 r] zs d1 zs1 (.tuple #[.int .i64 n,.int .i64 n2,.int .i64 0])):Run c 136 [.int .i64 r,.int .i64 f] zs (d1) zs1 (.bool false):=fun p m w hG=>by
 have hle:n≤f:=by omega
 have hnf:¬f<n:=hn
 clear hn
 have HG:=hid hG
 have HC1:=hid C1
 clear hG C1
 go_enter Tryz.func136,Tryz.ntmps136
 have HT0:Hid (Touch (ah p) w w):=hid (Touch.refl _ _)
 go_wp2_with fail
 refine(HC1.out p _ _ HG.out).mono ?_
 rintro e wm1 ⟨rfl,hG,hT⟩
 have HG1:=hid hG
 have HT1:Hid (Touch (ah p) _ wm1):=hid (HT0.out.trans hT)
 clear hG hT
 go_wp2_with fail
 go_ret
 exact⟨rfl,HG1.out,HT1.out⟩
set_option maxHeartbeats 1000000 in
theorem MN{r f n n2 x e:Int}{b:Bool}(hn:f<n)(C1:Run c 110 [.int .i64 r] zs d1 zs1 (.tuple #[.int .i64 n,.int .i64 n2,.int .i64 0]))(C2:Run c 70 [.int .i64 r,.int .i64 f] zs1 d2 zs2 (.tuple #[.int .i64 x,.int .i64 e]))(C3:Run c 181 [.int .i64 x] zs2 d3 zs3 (.bool b)):Run c 136 [.int .i64 r,.int .i64 f] zs (d1+d2+d3) zs3 (.bool true):=fun p m w hG=>by
 have hle:¬n≤f:=by omega
 have hnf:f<n:=hn
 clear hn
 have HG:=hid hG
 have HC1:=hid C1
 have HC2:=hid C2
 have HC3:=hid C3
 clear hG C1 C2 C3
 go_enter Tryz.func136,Tryz.ntmps136
 have HT0:Hid (Touch (ah p) w w):=hid (Touch.refl _ _)
 go_wp2_with fail
 refine(HC1.out p _ _ HG.out).mono ?_
 rintro e wm1 ⟨rfl,hG,hT⟩
 have HG1:=hid hG
 have HT1:Hid (Touch (ah p) _ wm1):=hid (HT0.out.trans hT)
 clear hG hT
 go_wp2_with fail
 refine(HC2.out p _ _ HG1.out).mono ?_
 rintro e wm2 ⟨rfl,hG,hT⟩
 have HG2:=hid hG
 have HT2:Hid (Touch (ah p) _ wm2):=hid (HT1.out.trans hT)
 clear hG hT
 go_wp2_with fail
 refine(HC3.out p _ _ HG2.out).mono ?_
 rintro e wm3 ⟨rfl,hG,hT⟩
 have HG3:=hid hG
 have HT3:Hid (Touch (ah p) _ wm3):=hid (HT2.out.trans hT)
 clear hG hT
 go_wp2_with fail
 go_ret
 exact⟨rfl,HG3.out.gT rfl (by dsimp only;omega),HT3.out⟩
set_option maxHeartbeats 1000000 in
theorem zW{k f v:Int}(hv:v≠1)(C1:Run c 47 [] zs d1 zs1 (.tuple #[.int .i64 k,.int .i64 f]))(C2:Run c 48 [] zs1 d2 zs2 (.int .i64 v)):Run c 76 [] zs (d1+d2) zs2 (.bool false):=fun p m w hG=>by
 have hvb:(v !=1)=true:=by rw[bne_iff_ne];exact hv
 clear hv
 have HG:=hid hG
 have HC1:=hid C1
 have HC2:=hid C2
 clear hG C1 C2
 go_enter Tryz.func76,Tryz.ntmps76
 have HT0:Hid (Touch (ah p) w w):=hid (Touch.refl _ _)
 go_wp2_with fail
 refine(HC1.out p _ _ HG.out).mono ?_
 rintro e wm1 ⟨rfl,hG,hT⟩
 have HG1:=hid hG
 have HT1:Hid (Touch (ah p) _ wm1):=hid (HT0.out.trans hT)
 clear hG hT
 go_wp2_with fail
 refine(HC2.out p _ _ HG1.out).mono ?_
 rintro e wm2 ⟨rfl,hG,hT⟩
 have HG2:=hid hG
 have HT2:Hid (Touch (ah p) _ wm2):=hid (HT1.out.trans hT)
 clear hG hT
 go_wp2_with fail
 go_ret
 exact⟨rfl,HG2.out.gT rfl (by dsimp only;omega),HT2.out⟩
set_option maxHeartbeats 1000000 in
theorem GL{k f:Int}(hk:(c.N:Int)≤k)(C1:Run c 47 [] zs d1 zs1 (.tuple #[.int .i64 k,.int .i64 f]))(C2:Run c 48 [] zs1 d2 zs2 (.int .i64 1)):Run c 76 [] zs (d1+d2) zs2 (.bool false):=fun p m w hG=>by
 have hfc:=dM (c.N:Int) (c.W:Int) (c.R:Int) (c.K:Int)
 have hkn:(c.N:Int)≤k:=hk
 clear hk
 have HG:=hid hG
 have HC1:=hid C1
 have HC2:=hid C2
 clear hG C1 C2
 go_enter Tryz.func76,Tryz.ntmps76
 have HT0:Hid (Touch (ah p) w w):=hid (Touch.refl _ _)
 go_wp2_with fail
 refine(HC1.out p _ _ HG.out).mono ?_
 rintro e wm1 ⟨rfl,hG,hT⟩
 have HG1:=hid hG
 have HT1:Hid (Touch (ah p) _ wm1):=hid (HT0.out.trans hT)
 clear hG hT
 go_wp2_with fail
 refine(HC2.out p _ _ HG1.out).mono ?_
 rintro e wm2 ⟨rfl,hG,hT⟩
 have HG2:=hid hG
 have HT2:Hid (Touch (ah p) _ wm2):=hid (HT1.out.trans hT)
 clear hG hT
 go_wp2_with fail
 refine(dH p c _ _ HG2.out).mono ?_
 rintro e wm3 ⟨rfl,hb⟩
 have HG3:=hid (HG2.out.later hb)
 have HT3:Hid (Touch (ah p) _ wm3):=hid (HT2.out.trans (Touch.of_below hb))
 clear hb
 go_wp2_with fail
 go_ret
 exact⟨rfl,HG3.out.gT rfl (by dsimp only;omega),HT3.out⟩
set_option maxHeartbeats 1000000 in
theorem Dr{k f:Int}{b:Bool}(h0:0≤k)(hk:k<(c.N:Int))(hm:c.May)(C1:Run c 47 [] zs d1 zs1 (.tuple #[.int .i64 k,.int .i64 f]))(C2:Run c 48 [] zs1 d2 zs2 (.int .i64 1))(C3:Run c 49 [.int .i64 (k+1)] zs2 d3 zs3 (.bool false))(C4:Run c 53 [.int .i64 (k+1),.int .i64 0] zs3 d4 zs4 (.bool b)):Run c 76 [] zs (d1+d2+d3+d4) zs4 (.bool b):=fun p m w hG=>by
 have hfc:=dM (c.N:Int) (c.W:Int) (c.R:Int) (c.K:Int)
 have hmn:=hm.n
 have hkn:¬(c.N:Int)≤k:=by omega
 have hw1:IntKind.i64.wrap (k+1)=k+1:=IntWalk.i64_in _ (by omega)
 clear hm hmn
 have HG:=hid hG
 have HC1:=hid C1
 have HC2:=hid C2
 have HC3:=hid C3
 have HC4:=hid C4
 clear hG C1 C2 C3 C4
 go_enter Tryz.func76,Tryz.ntmps76
 have HT0:Hid (Touch (ah p) w w):=hid (Touch.refl _ _)
 go_wp2_with fail
 refine(HC1.out p _ _ HG.out).mono ?_
 rintro e wm1 ⟨rfl,hG,hT⟩
 have HG1:=hid hG
 have HT1:Hid (Touch (ah p) _ wm1):=hid (HT0.out.trans hT)
 clear hG hT
 go_wp2_with fail
 refine(HC2.out p _ _ HG1.out).mono ?_
 rintro e wm2 ⟨rfl,hG,hT⟩
 have HG2:=hid hG
 have HT2:Hid (Touch (ah p) _ wm2):=hid (HT1.out.trans hT)
 clear hG hT
 go_wp2_with fail
 refine(dH p c _ _ HG2.out).mono ?_
 rintro e wm3 ⟨rfl,hb⟩
 have HG3:=hid (HG2.out.later hb)
 have HT3:Hid (Touch (ah p) _ wm3):=hid (HT2.out.trans (Touch.of_below hb))
 clear hb
 go_wp2_with fail
 refine(HC3.out p _ _ HG3.out).mono ?_
 rintro e wm4 ⟨rfl,hG,hT⟩
 have HG4:=hid hG
 have HT4:Hid (Touch (ah p) _ wm4):=hid (HT3.out.trans hT)
 clear hG hT
 go_wp2_with fail
 refine(HC4.out p _ _ HG4.out).mono ?_
 rintro e wm5 ⟨rfl,hG,hT⟩
 have HG5:=hid hG
 have HT5:Hid (Touch (ah p) _ wm5):=hid (HT4.out.trans hT)
 clear hG hT
 go_wp2_with fail
 go_ret
 exact⟨rfl,HG5.out.gT rfl (by dsimp only;omega),HT5.out⟩
set_option maxHeartbeats 1000000 in
theorem wI{k f:Int}{b:Bool}(h0:0≤k)(hk:k<(c.N:Int))(hm:c.May)(C1:Run c 47 [] zs d1 zs1 (.tuple #[.int .i64 k,.int .i64 f]))(C2:Run c 48 [] zs1 d2 zs2 (.int .i64 1))(C3:Run c 49 [.int .i64 (k+1)] zs2 d3 zs3 (.bool true))(C4:Run c 123 [.int .i64 (k+1),.int .i64 f] zs3 d4 zs4 (.bool true))(C5:Run c 53 [.int .i64 (k+1),.int .i64 0] zs4 d5 zs5 (.bool b)):Run c 76 [] zs (d1+d2+d3+d4+d5) zs5 (.bool b):=fun p m w hG=>by
 have hfc:=dM (c.N:Int) (c.W:Int) (c.R:Int) (c.K:Int)
 have hmn:=hm.n
 have hkn:¬(c.N:Int)≤k:=by omega
 have hw1:IntKind.i64.wrap (k+1)=k+1:=IntWalk.i64_in _ (by omega)
 clear hm hmn
 have HG:=hid hG
 have HC1:=hid C1
 have HC2:=hid C2
 have HC3:=hid C3
 have HC4:=hid C4
 have HC5:=hid C5
 clear hG C1 C2 C3 C4 C5
 go_enter Tryz.func76,Tryz.ntmps76
 have HT0:Hid (Touch (ah p) w w):=hid (Touch.refl _ _)
 go_wp2_with fail
 refine(HC1.out p _ _ HG.out).mono ?_
 rintro e wm1 ⟨rfl,hG,hT⟩
 have HG1:=hid hG
 have HT1:Hid (Touch (ah p) _ wm1):=hid (HT0.out.trans hT)
 clear hG hT
 go_wp2_with fail
 refine(HC2.out p _ _ HG1.out).mono ?_
 rintro e wm2 ⟨rfl,hG,hT⟩
 have HG2:=hid hG
 have HT2:Hid (Touch (ah p) _ wm2):=hid (HT1.out.trans hT)
 clear hG hT
 go_wp2_with fail
 refine(dH p c _ _ HG2.out).mono ?_
 rintro e wm3 ⟨rfl,hb⟩
 have HG3:=hid (HG2.out.later hb)
 have HT3:Hid (Touch (ah p) _ wm3):=hid (HT2.out.trans (Touch.of_below hb))
 clear hb
 go_wp2_with fail
 refine(HC3.out p _ _ HG3.out).mono ?_
 rintro e wm4 ⟨rfl,hG,hT⟩
 have HG4:=hid hG
 have HT4:Hid (Touch (ah p) _ wm4):=hid (HT3.out.trans hT)
 clear hG hT
 go_wp2_with fail
 refine(HC4.out p _ _ HG4.out).mono ?_
 rintro e wm5 ⟨rfl,hG,hT⟩
 have HG5:=hid hG
 have HT5:Hid (Touch (ah p) _ wm5):=hid (HT4.out.trans hT)
 clear hG hT
 go_wp2_with fail
 refine(HC5.out p _ _ HG5.out).mono ?_
 rintro e wm6 ⟨rfl,hG,hT⟩
 have HG6:=hid hG
 have HT6:Hid (Touch (ah p) _ wm6):=hid (HT5.out.trans hT)
 clear hG hT
 go_wp2_with fail
 go_ret
 exact⟨rfl,HG6.out.gT rfl (by dsimp only;omega),HT6.out⟩
set_option maxHeartbeats 1000000 in
theorem Dq{k f:Int}{b b2:Bool}(h0:0≤k)(hk:k<(c.N:Int))(hm:c.May)(C1:Run c 47 [] zs d1 zs1 (.tuple #[.int .i64 k,.int .i64 f]))(C2:Run c 48 [] zs1 d2 zs2 (.int .i64 1))(C3:Run c 49 [.int .i64 (k+1)] zs2 d3 zs3 (.bool true))(C4:Run c 123 [.int .i64 (k+1),.int .i64 f] zs3 d4 zs4 (.bool false))(C5:Run c 136 [.int .i64 (k+1),.int .i64 f] zs4 d5 zs5 (.bool false))(C6:Run c 137 [.int .i64 (k+1)] zs5 d6 zs6 (.bool b2))(C7:Run c 53 [.int .i64 (k+1),.int .i64 0] zs6 d7 zs7 (.bool b)):Run c 76 [] zs (d1+d2+d3+d4+d5+d6+d7) zs7 (.bool b):=fun p m w hG=>by
 have hfc:=dM (c.N:Int) (c.W:Int) (c.R:Int) (c.K:Int)
 have hmn:=hm.n
 have hkn:¬(c.N:Int)≤k:=by omega
 have hw1:IntKind.i64.wrap (k+1)=k+1:=IntWalk.i64_in _ (by omega)
 clear hm hmn
 have HG:=hid hG
 have HC1:=hid C1
 have HC2:=hid C2
 have HC3:=hid C3
 have HC4:=hid C4
 have HC5:=hid C5
 have HC6:=hid C6
 have HC7:=hid C7
 clear hG C1 C2 C3 C4 C5 C6 C7
 go_enter Tryz.func76,Tryz.ntmps76
 have HT0:Hid (Touch (ah p) w w):=hid (Touch.refl _ _)
 go_wp2_with fail
 refine(HC1.out p _ _ HG.out).mono ?_
 rintro e wm1 ⟨rfl,hG,hT⟩
 have HG1:=hid hG
 have HT1:Hid (Touch (ah p) _ wm1):=hid (HT0.out.trans hT)
 clear hG hT
 go_wp2_with fail
 refine(HC2.out p _ _ HG1.out).mono ?_
 rintro e wm2 ⟨rfl,hG,hT⟩
 have HG2:=hid hG
 have HT2:Hid (Touch (ah p) _ wm2):=hid (HT1.out.trans hT)
 clear hG hT
 go_wp2_with fail
 refine(dH p c _ _ HG2.out).mono ?_
 rintro e wm3 ⟨rfl,hb⟩
 have HG3:=hid (HG2.out.later hb)
 have HT3:Hid (Touch (ah p) _ wm3):=hid (HT2.out.trans (Touch.of_below hb))
 clear hb
 go_wp2_with fail
 refine(HC3.out p _ _ HG3.out).mono ?_
 rintro e wm4 ⟨rfl,hG,hT⟩
 have HG4:=hid hG
 have HT4:Hid (Touch (ah p) _ wm4):=hid (HT3.out.trans hT)
 clear hG hT
 go_wp2_with fail
 refine(HC4.out p _ _ HG4.out).mono ?_
 rintro e wm5 ⟨rfl,hG,hT⟩
 have HG5:=hid hG
 have HT5:Hid (Touch (ah p) _ wm5):=hid (HT4.out.trans hT)
 clear hG hT
 go_wp2_with fail
 refine(HC5.out p _ _ HG5.out).mono ?_
 rintro e wm6 ⟨rfl,hG,hT⟩
 have HG6:=hid hG
 have HT6:Hid (Touch (ah p) _ wm6):=hid (HT5.out.trans hT)
 clear hG hT
 go_wp2_with fail
 refine(HC6.out p _ _ HG6.out).mono ?_
 rintro e wm7 ⟨rfl,hG,hT⟩
 have HG7:=hid hG
 have HT7:Hid (Touch (ah p) _ wm7):=hid (HT6.out.trans hT)
 clear hG hT
 go_wp2_with fail
 refine(HC7.out p _ _ HG7.out).mono ?_
 rintro e wm8 ⟨rfl,hG,hT⟩
 have HG8:=hid hG
 have HT8:Hid (Touch (ah p) _ wm8):=hid (HT7.out.trans hT)
 clear hG hT
 go_wp2_with fail
 go_ret
 exact⟨rfl,HG8.out.gT rfl (by dsimp only;omega),HT8.out⟩
set_option maxHeartbeats 1000000 in
theorem Dp{k f:Int}{b:Bool}(hf0:0≤f)(hf1:f≤4294967295)(h0:0≤k)(hk:k<(c.N:Int))(hm:c.May)(C1:Run c 47 [] zs d1 zs1 (.tuple #[.int .i64 k,.int .i64 f]))(C2:Run c 48 [] zs1 d2 zs2 (.int .i64 1))(C3:Run c 49 [.int .i64 (k+1)] zs2 d3 zs3 (.bool true))(C4:Run c 123 [.int .i64 (k+1),.int .i64 f] zs3 d4 zs4 (.bool false))(C5:Run c 136 [.int .i64 (k+1),.int .i64 f] zs4 d5 zs5 (.bool true))(C6:Run c 53 [.int .i64 k,.int .i64 (f+1)] zs5 d6 zs6 (.bool b)):Run c 76 [] zs (d1+d2+d3+d4+d5+d6) zs6 (.bool b):=fun p m w hG=>by
 have hfc:=dM (c.N:Int) (c.W:Int) (c.R:Int) (c.K:Int)
 have hmn:=hm.n
 have hkn:¬(c.N:Int)≤k:=by omega
 have hw1:IntKind.i64.wrap (k+1)=k+1:=IntWalk.i64_in _ (by omega)
 have hw2:IntKind.i64.wrap (f+1)=f+1:=IntWalk.i64_in _ (by omega)
 clear hm hmn hf0 hf1
 have HG:=hid hG
 have HC1:=hid C1
 have HC2:=hid C2
 have HC3:=hid C3
 have HC4:=hid C4
 have HC5:=hid C5
 have HC6:=hid C6
 clear hG C1 C2 C3 C4 C5 C6
 go_enter Tryz.func76,Tryz.ntmps76
 have HT0:Hid (Touch (ah p) w w):=hid (Touch.refl _ _)
 go_wp2_with fail
 refine(HC1.out p _ _ HG.out).mono ?_
 rintro e wm1 ⟨rfl,hG,hT⟩
 have HG1:=hid hG
 have HT1:Hid (Touch (ah p) _ wm1):=hid (HT0.out.trans hT)
 clear hG hT
 go_wp2_with fail
 refine(HC2.out p _ _ HG1.out).mono ?_
 rintro e wm2 ⟨rfl,hG,hT⟩
 have HG2:=hid hG
 have HT2:Hid (Touch (ah p) _ wm2):=hid (HT1.out.trans hT)
 clear hG hT
 go_wp2_with fail
 refine(dH p c _ _ HG2.out).mono ?_
 rintro e wm3 ⟨rfl,hb⟩
 have HG3:=hid (HG2.out.later hb)
 have HT3:Hid (Touch (ah p) _ wm3):=hid (HT2.out.trans (Touch.of_below hb))
 clear hb
 go_wp2_with fail
 refine(HC3.out p _ _ HG3.out).mono ?_
 rintro e wm4 ⟨rfl,hG,hT⟩
 have HG4:=hid hG
 have HT4:Hid (Touch (ah p) _ wm4):=hid (HT3.out.trans hT)
 clear hG hT
 go_wp2_with fail
 refine(HC4.out p _ _ HG4.out).mono ?_
 rintro e wm5 ⟨rfl,hG,hT⟩
 have HG5:=hid hG
 have HT5:Hid (Touch (ah p) _ wm5):=hid (HT4.out.trans hT)
 clear hG hT
 go_wp2_with fail
 refine(HC5.out p _ _ HG5.out).mono ?_
 rintro e wm6 ⟨rfl,hG,hT⟩
 have HG6:=hid hG
 have HT6:Hid (Touch (ah p) _ wm6):=hid (HT5.out.trans hT)
 clear hG hT
 go_wp2_with fail
 refine(HC6.out p _ _ HG6.out).mono ?_
 rintro e wm7 ⟨rfl,hG,hT⟩
 have HG7:=hid hG
 have HT7:Hid (Touch (ah p) _ wm7):=hid (HT6.out.trans hT)
 clear hG hT
 go_wp2_with fail
 go_ret
 exact⟨rfl,HG7.out.gT rfl (by dsimp only;omega),HT7.out⟩
end
section
variable {w w':World} {lo:Nat} {lab:Nat→Nat} {a:WA} {D:Wd} {i:Nat} {t t':Th} {x:TA} {n v b:Nat} {cl:List Nat} {ts:List Th}
theorem az.Pj{K:Nat}(h:az w lo lab a D)(ht:D.ts[i]? =some t)(hx:a.tas[i]? =some x)(T:fF lo lab K w w')(hs:w'.heap.size=w.heap.size)(hK:K=7+5*i∨K=9+5*i∨K=10+5*i∨K=11+5*i)(hT:DD w' lo lab i t' x)(hh:t'.h=t.h)(hm:t'.mr=t.mr):
  az w' lo lab a {D with ts:=D.ts.set i t'}:=by
 have hi:=(List.getElem?_eq_some_iff.1 ht).1
 refine⟨⟨h.h.hb.touch T (fun h4=>by have:=h4.2.2;have:=h.h.lh.2;omega),h.h.lh,by simpa using h.h.len,by simpa using bR h.h.tv T (fun g hg h4=>by have:=h4.2.2;have:=(h.h.ltv g hg).2;omega),fun g hg=>⟨by rw[hs];exact(h.h.ltv g hg).1,(h.h.ltv g hg).2⟩,fun j s y hsj hy=> ?_,h.h.crow.touch T (h.h.lca.out (fun b _ _ h3 h4=>by have:=h4.2.2;omega)),h.h.lca.le T.size,fun s hsm=>by
   rcases List.mem_or_eq_of_mem_set hsm with g|rfl
   ·exact h.h.bd s g
   ·rw[hh];exact h.h.bd t (List.mem_of_getElem? ht)⟩,h.wb.touch T (fun h4=>by have:=h4.2.2;have:=h.lq.2;omega),h.lq,by simpa using bR h.mv T (fun g hg h4=>by have:=h4.2.2;have:=(h.lmv g hg).2;omega),fun g hg=>⟨by rw[hs];exact(h.lmv g hg).1,(h.lmv g hg).2⟩,fun j s y hsj hy=> ?_,h.rg.touch T (h.lra.out (fun b _ _ h3 h4=>by have:=h4.2.2;omega)),h.lra.le T.size,h.gv.touch T (h.lga.out (fun b _ _ h3 h4=>by have:=h4.2.2;omega)),h.lga.le T.size⟩
 ·by_cases hj:j=i
  ·subst hj
   simp[hi] at hsj
   subst hsj
   rw[hx] at hy
   cases hy
   exact hT
  ·rw[List.getElem?_set_ne (Ne.symm hj)] at hsj
   exact(h.h.th j s y hsj hy).touch T (fun b _ _ h3 h4=>by have:=h4.2.2;omega)
 ·by_cases hj:j=i
  ·subst hj
   simp[hi] at hsj
   subst hsj
   obtain⟨g1,g2,g3⟩:=h.mb j t y ht hy
   rw[hm]
   exact⟨g1.touch T (fun h4=>by have:=h4.2.2;omega),g2,g3⟩
  ·rw[List.getElem?_set_ne (Ne.symm hj)] at hsj
   obtain⟨g1,g2,g3⟩:=h.mb j s y hsj hy
   exact⟨g1.touch T (fun h4=>by have:=h4.2.2;omega),g2,g3⟩
theorem az.jG(h:az w lo lab a D)(ht:D.ts[i]? =some t)(hx:a.tas[i]? =some x){k:Nat}(hk:k<t.pt.length):
  ∃b,x.pa=some ⟨b,0,none⟩∧b<w.heap.size∧w.cell? ⟨b,k,none⟩=some (.int .i64 (nth t.pt k))∧w.frozen? ⟨b,k,none⟩=false∧lo≤b∧
   ∀z:Int,az (w.setCell ⟨b,k,none⟩ (.int .i64 z)) lo lab a {D with ts:=D.ts.set i {t with pt:=t.pt.set k z}}:=by
 have hT:=h.h.th i t x ht hx
 obtain⟨b,hpa,hb,hc,hf⟩:=hT.pt.at hk
 obtain⟨l1,l2,l3⟩:=hT.lpa (by omega) b 0 hpa
 refine⟨b,hpa,hb,hc,hf,l1,fun z=> ?_⟩
 have T:fF lo lab (10+5*i) w (w.setCell ⟨b,k,none⟩ (.int .i64 z)):=fF.cell l1 l3 _
 have ho:dZ w .i64 (some ⟨b,0,none⟩) t.pt:=by rw[←hpa];exact hT.pt
 have hp:dZ (w.setCell ⟨b,k,none⟩ (.int .i64 z)) .i64 x.pa (t.pt.set k z):=by rw[hpa];exact ho.set hk z
 refine h.Pj ht hx T (by simp) (.inr (.inr (.inl rfl))) ⟨?_,hT.lv.touch T (hT.lla.out (fun b _ _ h3 h4=>by have:=h4.2.2;omega) rfl),hp,hT.dt.touch T (hT.lda.out (fun b _ _ h3 h4=>by have:=h4.2.2;omega) rfl),hT.ltb,hT.lla.le T.size,by simpa using hT.lpa.le T.size,hT.lda.le T.size⟩ rfl rfl
 have:=hT.tb.touch T (fun h4=>by have:=h4.2.2;have:=hT.ltb.2;omega)
 simpa[Th.cells] using this
theorem az.Tc(h:az w lo lab a D)(ht:D.ts[i]? =some t)(hx:a.tas[i]? =some x){k:Nat}(hk:k<t.lv.length):
  ∃b,x.la=some ⟨b,0,none⟩∧b<w.heap.size∧w.cell? ⟨b,k,none⟩=some (.int .i64 (nth t.lv k))∧w.frozen? ⟨b,k,none⟩=false∧lo≤b∧
   ∀z:Int,az (w.setCell ⟨b,k,none⟩ (.int .i64 z)) lo lab a {D with ts:=D.ts.set i {t with lv:=t.lv.set k z}}:=by
 have hT:=h.h.th i t x ht hx
 obtain⟨b,hla,hb,hc,hf⟩:=hT.lv.at hk
 obtain⟨l1,l2,l3⟩:=hT.lla (by omega) b 0 hla
 refine⟨b,hla,hb,hc,hf,l1,fun z=> ?_⟩
 have T:fF lo lab (9+5*i) w (w.setCell ⟨b,k,none⟩ (.int .i64 z)):=fF.cell l1 l3 _
 have ho:dZ w .i64 (some ⟨b,0,none⟩) t.lv:=by rw[←hla];exact hT.lv
 have hp:dZ (w.setCell ⟨b,k,none⟩ (.int .i64 z)) .i64 x.la (t.lv.set k z):=by rw[hla];exact ho.set hk z
 refine h.Pj ht hx T (by simp) (.inr (.inl rfl)) ⟨?_,hp,hT.pt.touch T (hT.lpa.out (fun b _ _ h3 h4=>by have:=h4.2.2;omega) rfl),hT.dt.touch T (hT.lda.out (fun b _ _ h3 h4=>by have:=h4.2.2;omega) rfl),hT.ltb,by simpa using hT.lla.le T.size,hT.lpa.le T.size,hT.lda.le T.size⟩ rfl rfl
 have:=hT.tb.touch T (fun h4=>by have:=h4.2.2;have:=hT.ltb.2;omega)
 simpa[Th.cells] using this
theorem az.Us(h:az w lo lab a D)(ht:D.ts[i]? =some t)(hx:a.tas[i]? =some x):az (w.setCell ⟨x.tb,4,none⟩ (.bool true)) lo lab a {D with ts:=D.ts.set i {t with ended:=true}}:=by
 have hT:=h.h.th i t x ht hx
 have T:fF lo lab (7+5*i) w (w.setCell ⟨x.tb,4,none⟩ (.bool true)):=fF.cell hT.ltb.1 hT.ltb.2 _
 exact h.Pj ht hx T (by simp) (.inl rfl) ⟨hT.tb.put 4 _ rfl,hT.lv.touch T (hT.lla.out (fun b _ _ h3 h4=>by have:=h4.2.2;omega) rfl),hT.pt.touch T (hT.lpa.out (fun b _ _ h3 h4=>by have:=h4.2.2;omega) rfl),hT.dt.touch T (hT.lda.out (fun b _ _ h3 h4=>by have:=h4.2.2;omega) rfl),hT.ltb,hT.lla.le T.size,hT.lpa.le T.size,hT.lda.le T.size⟩ rfl rfl
theorem az.VO(h:az w lo lab a D){ca:Option Addr}{cc:Nat}{l:List Nat}(hr:Row w .i64 ca (ints l))(hL:qZ w lo lab ca l.length 4):
  az (w.setCell ⟨a.hb,2,none⟩ (.slice ca l.length cc)) lo lab {a with ca:=ca,cc:=cc} {D with clean:=l}:=by
 have T:fF lo lab 1 w (w.setCell ⟨a.hb,2,none⟩ (.slice ca l.length cc)):=fF.cell h.h.lh.1 h.h.lh.2 _
 have H:=h.h.FY (cc:=cc) hr hL
 have R:=h.rest.touch T (fun b _ _ h3 h4=>by
  have:=h4.2.2
  rcases h3 with h3|h3|h3|h3|⟨j,_,h3⟩<;>omega)
 exact⟨H,R.wb,R.lq,R.mv,R.lmv,R.mb,R.rg,R.lra,R.gv,R.lga⟩
theorem az.Ec{w1:World}(h:az w lo lab a D)(hb:Below w.heap.size w w1){ca:Option Addr}(cc:Nat){l:List Nat}(hr:Row w1 .i64 ca (ints l))(hf:∀b off,ca=some ⟨b,off,none⟩→w.heap.size≤b):
  ∃lab',az (w1.setCell ⟨a.hb,2,none⟩ (.slice ca l.length cc)) lo lab' {a with ca:=ca,cc:=cc} {D with clean:=l}:=by
 have hlo:lo≤w.heap.size:=Nat.le_of_lt (Nat.lt_of_le_of_lt h.lq.1 h.wb.lt)
 obtain⟨lab',h1,h2⟩:=xU (lab:=lab) hr hf hlo 4
 exact⟨lab',((h.re h1).later hb).VO hr h2⟩
theorem az.mQ{w1:World}(h:az w lo lab a D)(hb:Below w.heap.size w w1){ra:Option Addr}(rc:Nat){l:List Nat}(hr:Row w1 .i64 ra (ints l))(hf:∀b off,ra=some ⟨b,off,none⟩→w.heap.size≤b):
  ∃lab',az (w1.setCell ⟨a.q,11,none⟩ (.slice ra l.length rc)) lo lab' {a with ra:=ra,rc:=rc} {D with ring:=l}:=by
 have hlo:lo≤w.heap.size:=Nat.le_of_lt (Nat.lt_of_le_of_lt h.lq.1 h.wb.lt)
 obtain⟨lab',h1,h2⟩:=xU (lab:=lab) hr hf hlo 5
 exact⟨lab',((h.re h1).later hb).KO hr h2⟩
theorem az.pU{w1:World}(h:az w lo lab a D)(hb:Below w.heap.size w w1){ga:Option Addr}(gc:Nat){l:List Nat}(hr:Row w1 .i64 ga (ints l))(hf:∀b off,ga=some ⟨b,off,none⟩→w.heap.size≤b):
  ∃lab',az (w1.setCell ⟨a.q,12,none⟩ (.slice ga l.length gc)) lo lab' {a with ga:=ga,gc:=gc} {D with grave:=l}:=by
 have hlo:lo≤w.heap.size:=Nat.le_of_lt (Nat.lt_of_le_of_lt h.lq.1 h.wb.lt)
 obtain⟨lab',h1,h2⟩:=xU (lab:=lab) hr hf hlo 6
 exact⟨lab',((h.re h1).later hb).PP hr h2⟩
def wY(w:World)(lo:Nat)(a:WA)(D':Wd)(v:Value)(e:Ending)(w':World):Prop:=e=.returned v∧(∃lab' a',WA.q a'=a.q∧a'.hb=a.hb∧a'.tas=a.tas∧az w' lo lab' a' D')∧Touch (fun b=>lo≤b) w w'
theorem wY.toW{D':Wd}{v:Value}{e:Ending}(h:wY w lo a D' v e w'):dW w lo a.q D' v e w':=by
 obtain⟨h1,⟨lab',a',e1,_,_,h2⟩,h3⟩:=h
 exact⟨h1,⟨lab',a',e1,h2⟩,h3⟩
end
section
variable {w w':World} {lo:Nat} {lab:Nat→Nat} {a:WA} {D:Wd} {i:Nat} {t t':Th} {x:TA} {n v b:Nat} {cl:List Nat} {ts:List Th}
theorem TB(h:az w lo lab a D)(r:Int):
  Calls Tryz.prog 56 #[.pointer (some ⟨a.hb,0,none⟩),.int .i64 r] w fun e w'=>e=.returned (a.tp (D.ix r))∧w=w':=by
 have c3:=h.h.c3
 obtain⟨⟨om,capm,hmv⟩,hmx⟩:=jf h.h.tv
 have HMX:Hid (D.ts.length≤maxLen):=hid hmx
 have HMV:=hid hmv
 rw[hmv] at c3
 have H:=hid h
 clear h hmx hmv
 go_enter Tryz.func56,Tryz.ntmps56
 go_wp2_with fail
 go_loop [5] (fun i=>∃k:Nat,k≤D.ts.length∧i=.int .i64 (k:Int)∧∀(j:Nat) u,j<k→D.ts[j]? =some u→u.at r=false) (fun i=>D.ts.length-(intOf i).toNat)
 case atStart=>exact⟨0,Nat.zero_le _,rfl,fun j u h=>absurd h (by omega)⟩
 case round=>
  obtain⟨k,hk,rfl,hno⟩:=hrel
  have HN:=hid hno
  clear hno
  by_cases hlt:k<D.ts.length
  ·obtain⟨t,ht⟩:∃t,D.ts[k]? =some t:=⟨_,List.getElem?_eq_getElem hlt⟩
   obtain⟨x,hx⟩:=H.out.h.at ht
   obtain⟨g,cap,htv,ct⟩:=H.out.h.UC ht hx
   rw[HMV.out] at htv
   obtain⟨rfl,_,rfl⟩:om=some ⟨g,0,none⟩∧D.ts.length=D.ts.length∧capm=cap:=by simpa using htv
   have hT:=H.out.h.th k t x ht hx
   have d0:=hT.c0
   have d4:=hT.c4
   have hbd:=H.out.h.bd t (List.mem_of_getElem? ht)
   have hwr:IntKind.i64.wrap ((t.h:Int)+1)=(t.h:Int)+1:=IntWalk.i64_in _ (by omega)
   have hlx:=HMX.out
   unfold maxLen at hlx
   have HT:=hid ht
   have HX:=hid hx
   clear hT hbd ht hx htv
   cases hen:t.ended with
   |true=>
    rw[hen] at d4
    have HA:=hid (DY (r:=r) hen)
    clear hen
    go_wp2_with fail
    go_round
    case rel=>exact⟨k+1,by omega,by go_num,fun j u hj hu=>by
     by_cases e:j=k
     ·subst e;rw[HT.out] at hu;cases hu;exact HA.out
     ·exact HN.out j u (by omega) hu⟩
    case measure=>simp[intOf];omega
   |false=>
    rw[hen] at d4
    by_cases he:(t.h:Int)+1=r
    ·have E:Hid (a.tp (D.ix r)=.pointer (some ⟨x.tb,0,none⟩)):=hid (by
      rw[show D.ix r=some k from xI HT.out (at_eq hen he) (fun j u hj hu=>HN.out j u hj hu)]
      simp[WA.tp,HX.out])
     have hb:=wB he
     clear he hen
     go_wp2_with fail
     go_ret
     exact⟨by rw[E.out];rfl,rfl⟩
    ·have HA:=hid (SG (t:=t) (r:=r) he)
     have hb:=bL he
     clear he hen
     go_wp2_with fail
     go_round
     case rel=>exact⟨k+1,by omega,by go_num,fun j u hj hu=>by
      by_cases e:j=k
      ·subst e;rw[HT.out] at hu;cases hu;exact HA.out
      ·exact HN.out j u (by omega) hu⟩
     case measure=>simp[intOf];omega
  ·have E:Hid (D.ix r=none):=hid (xH.2 (fun u hu=>by
    obtain⟨j,hj⟩:=List.mem_iff_getElem?.1 hu
    exact HN.out j u (by have:=(List.getElem?_eq_some_iff.1 hj).1;omega) hj))
   go_wp2_with fail
   go_ret
   exact⟨by rw[E.out];rfl,rfl⟩
theorem aY(h:az w lo lab a D){r:Int}(hi:D.ix r=some i)(hx:a.tas[i]? =some x):
  Calls Tryz.prog 56 #[.pointer (some ⟨a.hb,0,none⟩),.int .i64 r] w fun e w'=>e=.returned (.pointer (some ⟨x.tb,0,none⟩))∧w=w':=by
 have:=TB h r
 rw[hi] at this
 simp only[WA.tp,hx] at this
 exact this
theorem gX(h:az w lo lab a D)(r:Int):
  Calls Tryz.prog 58 #[.pointer (some ⟨a.q,0,none⟩),.int .i64 r] w fun e w'=>e=.returned (.int .i64 (D.cnt r))∧w=w':=by
 cases hf:D.find r with
 |none=>
  have HC:=hid (gY h hf)
  have E:Hid (D.cnt r=0):=hid (by unfold Wd.cnt;rw[hf])
  clear h hf
  go_enter Tryz.func58,Tryz.ntmps58
  go_wp2_with fail
  refine HC.out.mono ?_
  rintro e w1 ⟨rfl,rfl⟩
  go_wp2_with fail
  go_ret
  exact⟨bO E.out.symm,rfl⟩
 |some t=>
  obtain⟨i,x,hi,ht,hx⟩:=h.found hf
  have HC:=hid (aX h hi hx)
  have E:Hid (D.cnt r=t.mr.refs):=hid (by unfold Wd.cnt;rw[hf])
  have m0:=h.m0 ht hx
  clear h hf hi ht hx
  go_enter Tryz.func58,Tryz.ntmps58
  go_wp2_with fail
  refine HC.out.mono ?_
  rintro e w1 ⟨rfl,rfl⟩
  go_wp2_with fail
  go_ret
  exact⟨bO E.out.symm,rfl⟩
theorem We(h:az w lo lab a D){r:Int}(hf:D.find r=some t)(h0:0≤t.mr.refs)(h1:t.mr.refs<4294967295):
  Calls Tryz.prog 99 #[.pointer (some ⟨a.q,0,none⟩),.int .i64 r] w fun e w'=>e=.returned (.tuple #[.int .i64 (t.mr.refs+1),.bool true])∧az w' lo lab a (D.up r)∧Touch (fun b=>lo≤b) w w':=by
 obtain⟨i,x,hi,ht,hx⟩:=h.found hf
 have HC:=hid (aX h hi hx)
 have HR:Hid (az (w.setCell ⟨x.mb,0,none⟩ (.int .i64 (t.mr.refs+1))) lo lab a (D.up r)):=hid (h.kN (f:=fun m=>{m with refs:=m.refs+1}) hi ht hx (k:=0) (u:=.int .i64 (t.mr.refs+1)) rfl)
 have HT:=hid (nT h ht hx 0 (.int .i64 (t.mr.refs+1)))
 have m0:=h.m0 ht hx
 have fz0:=(h.mb i t x ht hx).1.free 0
 have hne:(t.mr.refs==4294967295)=false:=by rw[beq_eq_false_iff_ne];omega
 have hwr:IntKind.i64.wrap (t.mr.refs+1)=t.mr.refs+1:=IntWalk.i64_in _ (by omega)
 clear h hf hi ht hx
 go_enter Tryz.func99,Tryz.ntmps99
 go_wp2_with fail
 refine HC.out.mono ?_
 rintro e w1 ⟨rfl,rfl⟩
 go_wp2_with fail
 go_ret2
 exact⟨rfl,HR.out,HT.out⟩
theorem sD(h:az w lo lab a D){r:Int}(hf:D.find r=some t)(h0:0<t.mr.refs)(h1:t.mr.refs≤4294967295):
  Calls Tryz.prog 59 #[.pointer (some ⟨a.q,0,none⟩),.int .i64 r] w fun e w'=>e=.returned (.tuple #[.int .i64 (t.mr.refs-1),.bool true])∧az w' lo lab a (D.down r)∧Touch (fun b=>lo≤b) w w':=by
 obtain⟨i,x,hi,ht,hx⟩:=h.found hf
 have HC:=hid (aX h hi hx)
 have HR:Hid (az (w.setCell ⟨x.mb,0,none⟩ (.int .i64 (t.mr.refs-1))) lo lab a (D.down r)):=hid (h.kN (f:=fun m=>{m with refs:=m.refs-1}) hi ht hx (k:=0) (u:=.int .i64 (t.mr.refs-1)) rfl)
 have HT:=hid (nT h ht hx 0 (.int .i64 (t.mr.refs-1)))
 have m0:=h.m0 ht hx
 have fz0:=(h.mb i t x ht hx).1.free 0
 have hne:(t.mr.refs==0)=false:=by rw[beq_eq_false_iff_ne];omega
 have hwr:IntKind.i64.wrap (t.mr.refs-1)=t.mr.refs-1:=IntWalk.i64_in _ (by omega)
 clear h hf hi ht hx
 go_enter Tryz.func59,Tryz.ntmps59
 go_wp2_with fail
 refine HC.out.mono ?_
 rintro e w1 ⟨rfl,rfl⟩
 go_wp2_with fail
 go_ret2
 exact⟨rfl,HR.out,HT.out⟩
def fK(v:Nat)(t:Th)(k:Nat):Bool:= !decide (t.pt.length+t.dt.length≤v-8)&&decide (nth t.lv (k/(v-1))<0)
structure Hm (v:Nat) (t:Th):Prop where
 w0:16≤v
 w1:v≤256
 f:((t.pt.length+t.dt.length:Nat):Int)≤aL (v:Int)
 big:¬t.pt.length+t.dt.length≤v-8→t.pt.length+t.dt.length≤t.lv.length*(v-1)
theorem Hm.small(z:Hm v t):t.pt.length+t.dt.length≤65536:=by
 have h1:=z.f
 have h2:aL (v:Int)=((v:Int)-8)*((v:Int)-1):=rfl
 have h3:((v:Int)-8)*((v:Int)-1)≤248*255:=Int.mul_le_mul (by have:=z.w1;omega) (by have:=z.w1;omega) (by have:=z.w0;omega) (by omega)
 omega
theorem Hm.leaf(z:Hm v t)(hb:¬t.pt.length+t.dt.length≤v-8){k:Nat}(hk:k<t.pt.length+t.dt.length):k/(v-1)<t.lv.length:=by
 have:=z.big hb
 have:=z.w0
 rw[Nat.div_lt_iff_lt_mul (by omega)]
 omega
theorem Oh(h:az w lo lab a D)(ht:D.ts[i]? =some t)(hx:a.tas[i]? =some x)(z:Hm D.w t){k:Nat}(hk:k<t.pt.length+t.dt.length):
  Calls Tryz.prog 126 #[.pointer (some ⟨a.hb,0,none⟩),.pointer (some ⟨x.tb,0,none⟩),.int .i64 (k:Int)] w fun e w'=>e=.returned (.bool (fK D.w t k))∧dK w w':=by
 have hT:=h.h.th i t x ht hx
 have c1:=h.h.c1
 have d1:=hT.c1
 have d2:=hT.c2
 have d3:=hT.c3
 have hs:=z.small
 have hw0:=z.w0
 have hw1:=z.w1
 have hwe:bX (D.w:Int) ((t.pt.length:Int)+t.dt.length)=0:=Bj (by omega) (by omega) (by omega) (by have:=z.f;omega)
 have hpe:=qM hwe (i:=(k:Int)) (by omega) (by omega)
 have hwr:IntKind.i64.wrap ((t.pt.length:Int)+(t.dt.length:Int))=(t.pt.length:Int)+(t.dt.length:Int):=IntWalk.i64_in _ (by omega)
 have HC:=hid (fun w=>FV (D.w:Int) ((t.pt.length:Int)+t.dt.length) (k:Int) w)
 by_cases hb:t.pt.length+t.dt.length≤D.w-8
 ·have e:=(mM hpe (by omega)).1
  have E:Hid (fK D.w t k=false):=hid (by unfold fK;simp[hb])
  unfold iW at HC
  rw[e] at HC
  generalize gJ _ _ _=o1 at HC
  clear h hT z hwe hpe e hb hk hs hw0 hw1
  go_enter Tryz.func126,Tryz.ntmps126
  go_wp2_with fail
  go_quiet ((go_at_call 174;exact(HC.out _).mono (fun e w' ⟨h1,m,h2⟩=>⟨h1,_,h2.trans (World.drewN_drewN _ _ _)⟩)))
  go_wp2_with fail
  go_ret
  exact⟨aJ E.out.symm,⟨_,by first|rfl|simp[World.drewN_drewN]⟩⟩
 ·have hlt:=z.leaf hb hk
  have e:=(qO hpe (by omega)).1
  have e2:(k:Int)/((D.w:Int)-1)=((k/(D.w-1):Nat):Int):=by
   rw[show(D.w:Int)-1=((D.w-1:Nat):Int) by omega]
   exact(Int.natCast_ediv _ _).symm
  have E:Hid (fK D.w t k=decide (nth t.lv (k/(D.w-1))<0)):=hid (by unfold fK;simp[hb])
  unfold iW at HC
  rw[e,e2] at HC
  obtain⟨bb,hla,hbb,hcc,_⟩:=hT.lv.at hlt
  have hl2:t.lv.length≤maxLen∨True:=.inr trivial
  rw[hla] at d1
  generalize k/(D.w-1)=j at*
  generalize gJ _ _ _=o1 at HC
  clear h hT z hwe hpe e e2 hb hk hs hw0 hw1 hla hl2
  go_enter Tryz.func126,Tryz.ntmps126
  go_wp2_with fail
  go_quiet ((go_at_call 174;exact(HC.out _).mono (fun e w' ⟨h1,m,h2⟩=>⟨h1,_,h2.trans (World.drewN_drewN _ _ _)⟩)))
  go_wp2_with fail
  go_ret
  exact⟨aJ E.out.symm,⟨_,by first|rfl|simp[World.drewN_drewN]⟩⟩
theorem EE(h:az w lo lab a D){r:Int}(hf:D.find r=some t){k:Int}(hk:¬(0≤k∧k<(t.pt.length:Int))):
  Calls Tryz.prog 101 #[.pointer (some ⟨a.hb,0,none⟩),.int .i64 r,.int .i64 k,.bool false] w fun e w'=>e=.returned (.int .i64 7)∧w=w':=by
 obtain⟨i,x,hi,ht,hx⟩:=h.found hf
 have HC:=hid (aY h hi hx)
 have d2:=(h.h.th i t x ht hx).c2
 clear h hf hi ht hx
 by_cases h0:k<0
 ·clear hk
  go_enter Tryz.func101,Tryz.ntmps101
  go_wp2_with fail
  refine HC.out.mono ?_
  rintro e w1 ⟨rfl,rfl⟩
  go_wp2_with fail
  go_ret
  exact⟨rfl,rfl⟩
 ·have h1:(t.pt.length:Int)≤k:=by omega
  clear hk
  go_enter Tryz.func101,Tryz.ntmps101
  go_wp2_with fail
  refine HC.out.mono ?_
  rintro e w1 ⟨rfl,rfl⟩
  go_wp2_with fail
  go_ret
  exact⟨rfl,rfl⟩
theorem lM(h:az w lo lab a D){r:Int}(hf:D.find r=some t)(z:Hm D.w t){k:Nat}(hk:k<t.pt.length):
  Calls Tryz.prog 101 #[.pointer (some ⟨a.hb,0,none⟩),.int .i64 r,.int .i64 (k:Int),.bool false] w fun e w'=>e=.returned (.int .i64 (if fK D.w t k then 7 else 0))∧dK w w':=by
 obtain⟨i,x,hi,ht,hx⟩:=h.found hf
 have HC:=hid (aY h hi hx)
 have HS:=hid (Oh h ht hx z (k:=k) (by omega))
 have d2:=(h.h.th i t x ht hx).c2
 have hs:=z.small
 have hwr:IntKind.i64.wrap (0+(k:Int))=(k:Int):=by rw[Int.zero_add];exact IntWalk.i64_in _ (by omega)
 have hwr2:IntKind.i64.wrap ((k:Int))=(k:Int):=IntWalk.i64_in _ (by omega)
 clear h hf hi ht hx z hs
 cases hb:fK D.w t k with
 |true=>
  rw[hb] at HS
  clear hb
  go_enter Tryz.func101,Tryz.ntmps101
  go_wp2_with fail
  refine HC.out.mono ?_
  rintro e w1 ⟨rfl,rfl⟩
  go_wp2_with fail
  refine HS.out.mono ?_
  rintro e w1 ⟨rfl,m,rfl⟩
  go_wp2_with fail
  go_ret
  exact⟨rfl,_,rfl⟩
 |false=>
  rw[hb] at HS
  clear hb
  go_enter Tryz.func101,Tryz.ntmps101
  go_wp2_with fail
  refine HC.out.mono ?_
  rintro e w1 ⟨rfl,rfl⟩
  go_wp2_with fail
  refine HS.out.mono ?_
  rintro e w1 ⟨rfl,m,rfl⟩
  go_wp2_with fail
  go_ret
  exact⟨rfl,_,rfl⟩
end
section
variable (D:Wd) (r:Int)
def Wd.dz:Bool:=(D.find r).isSome&& !D.dead r
def Wd.more:Wd:=(D.up r).touch r
def Wd.rR:Wd:={D with suspect:=1}
def Wd.less:Wd:=(D.down r).rR.inter r
def Wd.bW(i:Nat)(x:Int):Wd:=(if x=0 then D else D.more x).ay r i x
def Wd.wE(y:Int):Wd:=if 0<D.cnt y then(D.touch y).less y else D
def Wd.put(i:Nat)(x y:Int):Wd:=(D.bW r i x).wE y
def Wd.born(x y:Int):Wd:=if D.kQ x y=0 then((D.kG x y).nQ (D.jO x y)).more (D.jO x y) else D
end
section
variable {D D':Wd} {r x y:Int} {t s u:Th} {hold hold':Nat→Nat}
theorem bv(hf:D.find r=some t):D.dz r= !t.mr.dead:=by unfold Wd.dz Wd.dead;rw[hf];rfl
theorem pJ(hf:D.find r=none):D.dz r=false:=by unfold Wd.dz;rw[hf];rfl
theorem lG(h:D.dz r=true):∃t,D.find r=some t∧t.mr.dead=false:=by
 cases hf:D.find r with
 |none=>rw[pJ hf] at h;cases h
 |some t=>rw[bv hf] at h;exact⟨t,rfl,by simpa using h⟩
theorem jJ(r:Int):(D.touch r).ts=D.ts∨(D.touch r).ts=(D.cO r).ts:=by
 unfold Wd.touch
 split
 ·exact .inr rfl
 ·exact .inl rfl
theorem yG(r:Int):(D.touch r).clean=D.clean∧(D.touch r).grave=D.grave∧(D.touch r).pending=D.pending∧(D.touch r).n=D.n∧(D.touch r).w=D.w∧(D.touch r).suspect=D.suspect:=by
 unfold Wd.touch
 split<;>exact⟨rfl,rfl,rfl,rfl,rfl,rfl⟩
theorem JE(q:Int)(r:Int):(D.touch r).find q=D.find q∨(D.touch r).find q=(D.find q).map (fun t=>if t.at r then {t with mr:={t.mr with color:=D.parity}} else t):=by
 rcases jJ (D:=D) r with h|h
 ·left
  unfold Wd.find
  rw[h]
 ·right
  have:(D.touch r).find q=(D.cO r).find q:=by unfold Wd.find;rw[h]
  rw[this]
  exact pR (D:=D) (r:=r) (g:=fun t=>{t with mr:={t.mr with color:=D.parity}}) (fun t=>⟨rfl,rfl⟩) q
theorem oL(q:Int)(hf:D.find q=some t)(r:Int):∃k,(D.touch r).find q=some {t with mr:={t.mr with color:=k}}:=by
 rcases JE (D:=D) q r with h|h
 ·exact⟨t.mr.color,by rw[h,hf]⟩
 ·rw[h,hf]
  by_cases e:t.at r=true
  ·exact⟨D.parity,by simp[e]⟩
  ·exact⟨t.mr.color,by simp[e]⟩
theorem San.cO(S:San D)(r:Int):San (D.cO r):=S.mark r (fun _=>rfl) (fun _=>rfl) (fun _=>rfl)
theorem San.touch(S:San D)(r:Int):San (D.touch r):=by
 unfold Wd.touch
 split
 ·rename_i h
  have S1:=S.cO r
  refine S1.same_but rfl rfl rfl rfl (fun b hb=> ?_)
  have hb:b∈(if hasB (ints D.ring) (r-1) then D.ring else D.ring++[(r-1).toNat]):=hb
  split at hb
  ·exact .inl hb
  ·rcases List.mem_append.1 hb with hb|hb
   ·exact .inl hb
   ·right
    intro s hs e
    unfold Wd.aU at h
    cases hf:D.find r with
    |none=>rw[hf] at h;cases h
    |some t=>
     rw[hf] at h
     simp at h
     have hr:=(ax hf).2
     have hb:=List.mem_singleton.1 hb
     have hs2:=S1.ja hs
     rw[show(s.h:Int)+1=r by omega] at hs2
     have e3:(D.cO r).find r=(D.find r).map (fun t=>if t.at r then {t with mr:={t.mr with color:=D.parity}} else t):=pR (D:=D) (r:=r) (g:=fun t=>{t with mr:={t.mr with color:=D.parity}}) (fun t=>⟨rfl,rfl⟩) r
     rw[e3,hf] at hs2
     simp[eQ hf] at hs2
     rw[←hs2]
     exact h.1.2
 ·exact S
theorem Br.ts(N:Br hold D)(h:D'.ts=D.ts):Br hold D':=by
 have hl:D'.live=D.live:=by unfold Wd.live;rw[h]
 exact⟨by rw[hl,h];exact N.cnt,by rw[hl];exact N.good,by rw[hl];exact N.kH⟩
theorem Br.touch(N:Br hold D)(S:San D)(r:Int):Br hold (D.touch r):=by
 rcases jJ (D:=D) r with h|h
 ·exact N.ts h
 ·exact(N.mark S r (f:=fun m=>{m with color:=D.parity}) (fun _=>rfl) (fun _=>rfl)).ts h
theorem San.more(S:San D)(r:Int):San (D.more r):=(S.up r).touch r
theorem San.rR(S:San D):San D.rR:=S.same_but rfl rfl rfl rfl (fun b hb=>.inl hb)
theorem San.less(S:San D)(r:Int):San (D.less r):=(S.down r).rR.inter r
theorem Fb(S:San D){f:cz→cz}(hs:s∈(D.mark x f).live):∃v,v∈D.live∧s.h=v.h∧s.pt=v.pt∧((v.h:Int)+1=x∧s.mr=f v.mr∨(v.h:Int)+1≠x∧s.mr=v.mr):=by
 cases hf:D.find x with
 |none=>
  rw[dJ f hf] at hs
  exact⟨s,hs,rfl,rfl,.inr ⟨fun h=>(by have:=S.ja hs;rw[h,hf] at this;cases this),rfl⟩⟩
 |some t=>
  obtain⟨k1,k2⟩:=ax hf
  rcases gP (g:=fun t=>{t with mr:=f t.mr}) S.nd hf hs with rfl|⟨h,hne⟩
  ·exact⟨t,k1,rfl,rfl,.inl ⟨k2,rfl⟩⟩
  ·exact⟨s,h,rfl,rfl,.inr ⟨by omega,rfl⟩⟩
def yU(x:Int)(D:Wd):Prop:=∀t,t∈D.live→t.mr.dead=false→(t.h:Int)+1≠x→0<t.mr.refs
theorem yU.mark(P:yU x D)(S:San D)(r:Int){f:cz→cz}(h1:∀m,(f m).dead=m.dead)(h2:∀m,0<m.refs→0<(f m).refs):yU x (D.mark r f):=fun s hs hd hx=>by
 obtain⟨v,hv,e1,e2,h⟩:=Fb S hs
 rcases h with⟨h,e⟩|⟨h,e⟩
 ·rw[e,h1] at hd
  rw[e]
  exact h2 _ (P v hv hd (by rw[←e1];exact hx))
 ·rw[e] at hd ⊢
  exact P v hv hd (by rw[←e1];exact hx)
theorem yU.ts(P:yU x D)(h:D'.ts=D.ts):yU x D':=by
 have hl:D'.live=D.live:=by unfold Wd.live;rw[h]
 unfold yU
 rw[hl]
 exact P
theorem yU.touch(P:yU x D)(S:San D)(r:Int):yU x (D.touch r):=by
 rcases jJ (D:=D) r with h|h
 ·exact P.ts h
 ·exact(P.mark S r (f:=fun m=>{m with color:=D.parity}) (fun _=>rfl) (fun _ h=>h)).ts h
end
section
variable {c:Cf} {zs zs1 zs2 zs3 zs4 zs5 zs6 zs7:List Int} {d1 d2 d3 d4 d5 d6 d7:Nat}
set_option maxHeartbeats 1000000 in
theorem EZ{r:Int}(C1:Run c 49 [.int .i64 r] zs d1 zs1 (.bool false)):Run c 73 [.int .i64 r] zs (d1) zs1 (.bool false):=fun p m w hG=>by
 have HG:=hid hG
 have HC1:=hid C1
 clear hG C1
 go_enter Tryz.func73,Tryz.ntmps73
 have HT0:Hid (Touch (ah p) w w):=hid (Touch.refl _ _)
 go_wp2_with fail
 refine(HC1.out p _ _ HG.out).mono ?_
 rintro e wm1 ⟨rfl,hG,hT⟩
 have HG1:=hid hG
 have HT1:Hid (Touch (ah p) _ wm1):=hid (HT0.out.trans hT)
 clear hG hT
 go_wp2_with fail
 go_ret
 exact⟨rfl,HG1.out,HT1.out⟩
set_option maxHeartbeats 1000000 in
theorem OD{r:Int}{b:Bool}(C1:Run c 49 [.int .i64 r] zs d1 zs1 (.bool true))(C2:Run c 50 [.int .i64 r] zs1 d2 zs2 (.bool b)):Run c 73 [.int .i64 r] zs (d1+d2) zs2 (.bool (!b)):=fun p m w hG=>by
 have HG:=hid hG
 have HC1:=hid C1
 have HC2:=hid C2
 clear hG C1 C2
 go_enter Tryz.func73,Tryz.ntmps73
 have HT0:Hid (Touch (ah p) w w):=hid (Touch.refl _ _)
 go_wp2_with fail
 refine(HC1.out p _ _ HG.out).mono ?_
 rintro e wm1 ⟨rfl,hG,hT⟩
 have HG1:=hid hG
 have HT1:Hid (Touch (ah p) _ wm1):=hid (HT0.out.trans hT)
 clear hG hT
 go_wp2_with fail
 refine(HC2.out p _ _ HG1.out).mono ?_
 rintro e wm2 ⟨rfl,hG,hT⟩
 have HG2:=hid hG
 have HT2:Hid (Touch (ah p) _ wm2):=hid (HT1.out.trans hT)
 clear hG hT
 go_wp2_with fail
 go_ret
 exact⟨rfl,HG2.out.gT rfl (by dsimp only;omega),HT2.out⟩
set_option maxHeartbeats 1000000 in
theorem Rn{r n:Int}{b:Bool}(C1:Run c 72 [.int .i64 r] zs d1 zs1 (.tuple #[.int .i64 n,.bool true]))(C2:Run c 88 [.int .i64 r] zs1 d2 zs2 (.bool b)):Run c 74 [.int .i64 r] zs (d1+d2) zs2 (.bool true):=fun p m w hG=>by
 have HG:=hid hG
 have HC1:=hid C1
 have HC2:=hid C2
 clear hG C1 C2
 go_enter Tryz.func74,Tryz.ntmps74
 have HT0:Hid (Touch (ah p) w w):=hid (Touch.refl _ _)
 go_wp2_with fail
 refine(HC1.out p _ _ HG.out).mono ?_
 rintro e wm1 ⟨rfl,hG,hT⟩
 have HG1:=hid hG
 have HT1:Hid (Touch (ah p) _ wm1):=hid (HT0.out.trans hT)
 clear hG hT
 go_wp2_with fail
 refine(HC2.out p _ _ HG1.out).mono ?_
 rintro e wm2 ⟨rfl,hG,hT⟩
 have HG2:=hid hG
 have HT2:Hid (Touch (ah p) _ wm2):=hid (HT1.out.trans hT)
 clear hG hT
 go_wp2_with fail
 go_ret
 exact⟨rfl,HG2.out.gT rfl (by dsimp only;omega),HT2.out⟩
set_option maxHeartbeats 1000000 in
theorem Rm{r n:Int}(hn:n≠0)(C1:Run c 111 [.int .i64 r] zs d1 zs1 (.tuple #[.int .i64 n,.bool true])):Run c 89 [.int .i64 r] zs (d1+1) (zs1.set 16 1) (.bool true):=fun p m w hG=>by
 have hnb:(n==0)=false:=bL hn
 clear hn
 have HG:=hid hG
 have HC1:=hid C1
 clear hG C1
 go_enter Tryz.func89,Tryz.ntmps89
 have HT0:Hid (Touch (ah p) w w):=hid (Touch.refl _ _)
 go_wp2_with fail
 refine(HC1.out p _ _ HG.out).mono ?_
 rintro e wm1 ⟨rfl,hG,hT⟩
 have HG1:=hid hG
 have HT1:Hid (Touch (ah p) _ wm1):=hid (HT0.out.trans hT)
 clear hG hT
 go_wp2_with fail
 refine(aW p c _ 16 _ 1 _ HG1.out (by omega) rfl (by omega) (by omega)).mono ?_
 rintro e wm2 ⟨rfl,hG,hT⟩
 have HG2:=hid hG
 have HT2:Hid (Touch (ah p) _ wm2):=hid (HT1.out.trans hT)
 clear hG hT
 go_wp2_with fail
 go_ret
 exact⟨rfl,HG2.out.gT rfl (by dsimp only[St.got,St.set];omega),HT2.out⟩
set_option maxHeartbeats 1000000 in
theorem OE{r:Int}{b:Bool}(C1:Run c 111 [.int .i64 r] zs d1 zs1 (.tuple #[.int .i64 0,.bool true]))(C2:Run c 17 [.int .i64 r] (zs1.set 16 1) d2 zs2 (.bool b)):Run c 89 [.int .i64 r] zs (d1+1+d2) zs2 (.bool true):=fun p m w hG=>by
 have HG:=hid hG
 have HC1:=hid C1
 have HC2:=hid C2
 clear hG C1 C2
 go_enter Tryz.func89,Tryz.ntmps89
 have HT0:Hid (Touch (ah p) w w):=hid (Touch.refl _ _)
 go_wp2_with fail
 refine(HC1.out p _ _ HG.out).mono ?_
 rintro e wm1 ⟨rfl,hG,hT⟩
 have HG1:=hid hG
 have HT1:Hid (Touch (ah p) _ wm1):=hid (HT0.out.trans hT)
 clear hG hT
 go_wp2_with fail
 refine(aW p c _ 16 _ 1 _ HG1.out (by omega) rfl (by omega) (by omega)).mono ?_
 rintro e wm2 ⟨rfl,hG,hT⟩
 have HG2:=hid hG
 have HT2:Hid (Touch (ah p) _ wm2):=hid (HT1.out.trans hT)
 clear hG hT
 go_wp2_with fail
 refine(HC2.out p _ _ HG2.out).mono ?_
 rintro e wm3 ⟨rfl,hG,hT⟩
 have HG3:=hid hG
 have HT3:Hid (Touch (ah p) _ wm3):=hid (HT2.out.trans hT)
 clear hG hT
 go_wp2_with fail
 go_ret
 exact⟨rfl,HG3.out.gT rfl (by dsimp only[St.got,St.set];omega),HT3.out⟩
set_option maxHeartbeats 1000000 in
theorem IM{r:Int}(C1:Run c 73 [.int .i64 r] zs d1 zs1 (.bool false)):Run c 16 [.int .i64 r] zs (d1) zs1 (.bool false):=fun p m w hG=>by
 have HG:=hid hG
 have HC1:=hid C1
 clear hG C1
 go_enter Tryz.func16,Tryz.ntmps16
 have HT0:Hid (Touch (ah p) w w):=hid (Touch.refl _ _)
 go_wp2_with fail
 refine(HC1.out p _ _ HG.out).mono ?_
 rintro e wm1 ⟨rfl,hG,hT⟩
 have HG1:=hid hG
 have HT1:Hid (Touch (ah p) _ wm1):=hid (HT0.out.trans hT)
 clear hG hT
 go_wp2_with fail
 go_ret
 exact⟨rfl,HG1.out,HT1.out⟩
set_option maxHeartbeats 1000000 in
theorem Rl{r:Int}{b:Bool}(C1:Run c 73 [.int .i64 r] zs d1 zs1 (.bool true))(C2:Run c 74 [.int .i64 r] zs1 d2 zs2 (.bool b)):Run c 16 [.int .i64 r] zs (d1+d2) zs2 (.bool b):=fun p m w hG=>by
 have HG:=hid hG
 have HC1:=hid C1
 have HC2:=hid C2
 clear hG C1 C2
 go_enter Tryz.func16,Tryz.ntmps16
 have HT0:Hid (Touch (ah p) w w):=hid (Touch.refl _ _)
 go_wp2_with fail
 refine(HC1.out p _ _ HG.out).mono ?_
 rintro e wm1 ⟨rfl,hG,hT⟩
 have HG1:=hid hG
 have HT1:Hid (Touch (ah p) _ wm1):=hid (HT0.out.trans hT)
 clear hG hT
 go_wp2_with fail
 refine(HC2.out p _ _ HG1.out).mono ?_
 rintro e wm2 ⟨rfl,hG,hT⟩
 have HG2:=hid hG
 have HT2:Hid (Touch (ah p) _ wm2):=hid (HT1.out.trans hT)
 clear hG hT
 go_wp2_with fail
 go_ret
 exact⟨rfl,HG2.out.gT rfl (by dsimp only;omega),HT2.out⟩
set_option maxHeartbeats 1000000 in
theorem LM{r:Int}(C1:Run c 73 [.int .i64 r] zs d1 zs1 (.bool false)):Run c 32 [.int .i64 r] zs (d1) zs1 (.bool false):=fun p m w hG=>by
 have HG:=hid hG
 have HC1:=hid C1
 clear hG C1
 go_enter Tryz.func32,Tryz.ntmps32
 have HT0:Hid (Touch (ah p) w w):=hid (Touch.refl _ _)
 go_wp2_with fail
 refine(HC1.out p _ _ HG.out).mono ?_
 rintro e wm1 ⟨rfl,hG,hT⟩
 have HG1:=hid hG
 have HT1:Hid (Touch (ah p) _ wm1):=hid (HT0.out.trans hT)
 clear hG hT
 go_wp2_with fail
 go_ret
 exact⟨rfl,HG1.out,HT1.out⟩
set_option maxHeartbeats 1000000 in
theorem OC{r:Int}{b:Bool}(C1:Run c 73 [.int .i64 r] zs d1 zs1 (.bool true))(C2:Run c 89 [.int .i64 r] zs1 d2 zs2 (.bool b)):Run c 32 [.int .i64 r] zs (d1+d2) zs2 (.bool b):=fun p m w hG=>by
 have HG:=hid hG
 have HC1:=hid C1
 have HC2:=hid C2
 clear hG C1 C2
 go_enter Tryz.func32,Tryz.ntmps32
 have HT0:Hid (Touch (ah p) w w):=hid (Touch.refl _ _)
 go_wp2_with fail
 refine(HC1.out p _ _ HG.out).mono ?_
 rintro e wm1 ⟨rfl,hG,hT⟩
 have HG1:=hid hG
 have HT1:Hid (Touch (ah p) _ wm1):=hid (HT0.out.trans hT)
 clear hG hT
 go_wp2_with fail
 refine(HC2.out p _ _ HG1.out).mono ?_
 rintro e wm2 ⟨rfl,hG,hT⟩
 have HG2:=hid hG
 have HT2:Hid (Touch (ah p) _ wm2):=hid (HT1.out.trans hT)
 clear hG hT
 go_wp2_with fail
 go_ret
 exact⟨rfl,HG2.out.gT rfl (by dsimp only;omega),HT2.out⟩
set_option maxHeartbeats 1000000 in
theorem EU{r i x:Int}(C1:Run c 73 [.int .i64 r] zs d1 zs1 (.bool false)):Run c 31 [.int .i64 r,.int .i64 i,.int .i64 x] zs (d1) zs1 (.int .i64 8):=fun p m w hG=>by
 have HG:=hid hG
 have HC1:=hid C1
 clear hG C1
 go_enter Tryz.func31,Tryz.ntmps31
 have HT0:Hid (Touch (ah p) w w):=hid (Touch.refl _ _)
 go_wp2_with fail
 refine(HC1.out p _ _ HG.out).mono ?_
 rintro e wm1 ⟨rfl,hG,hT⟩
 have HG1:=hid hG
 have HT1:Hid (Touch (ah p) _ wm1):=hid (HT0.out.trans hT)
 clear hG hT
 go_wp2_with fail
 go_ret
 exact⟨rfl,HG1.out,HT1.out⟩
set_option maxHeartbeats 1000000 in
theorem Ct{r i x y e:Int}(he:e≠0)(C1:Run c 73 [.int .i64 r] zs d1 zs1 (.bool true))(C2:Run c 70 [.int .i64 r,.int .i64 i] zs1 d2 zs2 (.tuple #[.int .i64 y,.int .i64 e])):Run c 31 [.int .i64 r,.int .i64 i,.int .i64 x] zs (d1+d2) zs2 (.int .i64 e):=fun p m w hG=>by
 have heb:(e !=0)=true:=by rw[bne_iff_ne];exact he
 clear he
 have HG:=hid hG
 have HC1:=hid C1
 have HC2:=hid C2
 clear hG C1 C2
 go_enter Tryz.func31,Tryz.ntmps31
 have HT0:Hid (Touch (ah p) w w):=hid (Touch.refl _ _)
 go_wp2_with fail
 refine(HC1.out p _ _ HG.out).mono ?_
 rintro e wm1 ⟨rfl,hG,hT⟩
 have HG1:=hid hG
 have HT1:Hid (Touch (ah p) _ wm1):=hid (HT0.out.trans hT)
 clear hG hT
 go_wp2_with fail
 refine(HC2.out p _ _ HG1.out).mono ?_
 rintro e wm2 ⟨rfl,hG,hT⟩
 have HG2:=hid hG
 have HT2:Hid (Touch (ah p) _ wm2):=hid (HT1.out.trans hT)
 clear hG hT
 go_wp2_with fail
 go_ret
 exact⟨rfl,HG2.out.gT rfl (by dsimp only;omega),HT2.out⟩
set_option maxHeartbeats 1000000 in
theorem IP{r i x y:Int}(hx:x≠0)(C1:Run c 73 [.int .i64 r] zs d1 zs1 (.bool true))(C2:Run c 70 [.int .i64 r,.int .i64 i] zs1 d2 zs2 (.tuple #[.int .i64 y,.int .i64 0]))(C3:Run c 16 [.int .i64 x] zs2 d3 zs3 (.bool false)):Run c 31 [.int .i64 r,.int .i64 i,.int .i64 x] zs (d1+d2+d3) zs3 (.int .i64 2):=fun p m w hG=>by
 have hxb:(x !=0)=true:=by rw[bne_iff_ne];exact hx
 clear hx
 have HG:=hid hG
 have HC1:=hid C1
 have HC2:=hid C2
 have HC3:=hid C3
 clear hG C1 C2 C3
 go_enter Tryz.func31,Tryz.ntmps31
 have HT0:Hid (Touch (ah p) w w):=hid (Touch.refl _ _)
 go_wp2_with fail
 refine(HC1.out p _ _ HG.out).mono ?_
 rintro e wm1 ⟨rfl,hG,hT⟩
 have HG1:=hid hG
 have HT1:Hid (Touch (ah p) _ wm1):=hid (HT0.out.trans hT)
 clear hG hT
 go_wp2_with fail
 refine(HC2.out p _ _ HG1.out).mono ?_
 rintro e wm2 ⟨rfl,hG,hT⟩
 have HG2:=hid hG
 have HT2:Hid (Touch (ah p) _ wm2):=hid (HT1.out.trans hT)
 clear hG hT
 go_wp2_with fail
 refine(HC3.out p _ _ HG2.out).mono ?_
 rintro e wm3 ⟨rfl,hG,hT⟩
 have HG3:=hid hG
 have HT3:Hid (Touch (ah p) _ wm3):=hid (HT2.out.trans hT)
 clear hG hT
 go_wp2_with fail
 go_ret
 exact⟨rfl,HG3.out.gT rfl (by dsimp only;omega),HT3.out⟩
set_option maxHeartbeats 1000000 in
theorem EX{r i y k:Int}(hk:¬0<k)(C1:Run c 73 [.int .i64 r] zs d1 zs1 (.bool true))(C2:Run c 70 [.int .i64 r,.int .i64 i] zs1 d2 zs2 (.tuple #[.int .i64 y,.int .i64 0]))(C3:Run c 71 [.int .i64 r,.int .i64 i,.int .i64 0] zs2 d3 zs3 (.int .i64 0))(C4:Run c 33 [.int .i64 y] zs3 d4 zs4 (.int .i64 k)):Run c 31 [.int .i64 r,.int .i64 i,.int .i64 0] zs (d1+d2+d3+d4) zs4 (.int .i64 0):=fun p m w hG=>by
 have hkz:¬0<k:=hk
 clear hk
 have HG:=hid hG
 have HC1:=hid C1
 have HC2:=hid C2
 have HC3:=hid C3
 have HC4:=hid C4
 clear hG C1 C2 C3 C4
 go_enter Tryz.func31,Tryz.ntmps31
 have HT0:Hid (Touch (ah p) w w):=hid (Touch.refl _ _)
 go_wp2_with fail
 refine(HC1.out p _ _ HG.out).mono ?_
 rintro e wm1 ⟨rfl,hG,hT⟩
 have HG1:=hid hG
 have HT1:Hid (Touch (ah p) _ wm1):=hid (HT0.out.trans hT)
 clear hG hT
 go_wp2_with fail
 refine(HC2.out p _ _ HG1.out).mono ?_
 rintro e wm2 ⟨rfl,hG,hT⟩
 have HG2:=hid hG
 have HT2:Hid (Touch (ah p) _ wm2):=hid (HT1.out.trans hT)
 clear hG hT
 go_wp2_with fail
 refine(HC3.out p _ _ HG2.out).mono ?_
 rintro e wm3 ⟨rfl,hG,hT⟩
 have HG3:=hid hG
 have HT3:Hid (Touch (ah p) _ wm3):=hid (HT2.out.trans hT)
 clear hG hT
 go_wp2_with fail
 refine(HC4.out p _ _ HG3.out).mono ?_
 rintro e wm4 ⟨rfl,hG,hT⟩
 have HG4:=hid hG
 have HT4:Hid (Touch (ah p) _ wm4):=hid (HT3.out.trans hT)
 clear hG hT
 go_wp2_with fail
 go_ret
 exact⟨rfl,HG4.out.gT rfl (by dsimp only;omega),HT4.out⟩
set_option maxHeartbeats 1000000 in
theorem Cu{r i y k:Int}{b b2:Bool}(hk:0<k)(C1:Run c 73 [.int .i64 r] zs d1 zs1 (.bool true))(C2:Run c 70 [.int .i64 r,.int .i64 i] zs1 d2 zs2 (.tuple #[.int .i64 y,.int .i64 0]))(C3:Run c 71 [.int .i64 r,.int .i64 i,.int .i64 0] zs2 d3 zs3 (.int .i64 0))(C4:Run c 33 [.int .i64 y] zs3 d4 zs4 (.int .i64 k))(C5:Run c 88 [.int .i64 y] zs4 d5 zs5 (.bool b))(C6:Run c 89 [.int .i64 y] zs5 d6 zs6 (.bool b2)):Run c 31 [.int .i64 r,.int .i64 i,.int .i64 0] zs (d1+d2+d3+d4+d5+d6) zs6 (.int .i64 0):=fun p m w hG=>by
 have hkp:0<k:=hk
 clear hk
 have HG:=hid hG
 have HC1:=hid C1
 have HC2:=hid C2
 have HC3:=hid C3
 have HC4:=hid C4
 have HC5:=hid C5
 have HC6:=hid C6
 clear hG C1 C2 C3 C4 C5 C6
 go_enter Tryz.func31,Tryz.ntmps31
 have HT0:Hid (Touch (ah p) w w):=hid (Touch.refl _ _)
 go_wp2_with fail
 refine(HC1.out p _ _ HG.out).mono ?_
 rintro e wm1 ⟨rfl,hG,hT⟩
 have HG1:=hid hG
 have HT1:Hid (Touch (ah p) _ wm1):=hid (HT0.out.trans hT)
 clear hG hT
 go_wp2_with fail
 refine(HC2.out p _ _ HG1.out).mono ?_
 rintro e wm2 ⟨rfl,hG,hT⟩
 have HG2:=hid hG
 have HT2:Hid (Touch (ah p) _ wm2):=hid (HT1.out.trans hT)
 clear hG hT
 go_wp2_with fail
 refine(HC3.out p _ _ HG2.out).mono ?_
 rintro e wm3 ⟨rfl,hG,hT⟩
 have HG3:=hid hG
 have HT3:Hid (Touch (ah p) _ wm3):=hid (HT2.out.trans hT)
 clear hG hT
 go_wp2_with fail
 refine(HC4.out p _ _ HG3.out).mono ?_
 rintro e wm4 ⟨rfl,hG,hT⟩
 have HG4:=hid hG
 have HT4:Hid (Touch (ah p) _ wm4):=hid (HT3.out.trans hT)
 clear hG hT
 go_wp2_with fail
 refine(HC5.out p _ _ HG4.out).mono ?_
 rintro e wm5 ⟨rfl,hG,hT⟩
 have HG5:=hid hG
 have HT5:Hid (Touch (ah p) _ wm5):=hid (HT4.out.trans hT)
 clear hG hT
 go_wp2_with fail
 refine(HC6.out p _ _ HG5.out).mono ?_
 rintro e wm6 ⟨rfl,hG,hT⟩
 have HG6:=hid hG
 have HT6:Hid (Touch (ah p) _ wm6):=hid (HT5.out.trans hT)
 clear hG hT
 go_wp2_with fail
 go_ret
 exact⟨rfl,HG6.out.gT rfl (by dsimp only;omega),HT6.out⟩
set_option maxHeartbeats 1000000 in
theorem IQ{r i x y k:Int}(hx:x≠0)(hk:¬0<k)(C1:Run c 73 [.int .i64 r] zs d1 zs1 (.bool true))(C2:Run c 70 [.int .i64 r,.int .i64 i] zs1 d2 zs2 (.tuple #[.int .i64 y,.int .i64 0]))(C3:Run c 16 [.int .i64 x] zs2 d3 zs3 (.bool true))(C4:Run c 71 [.int .i64 r,.int .i64 i,.int .i64 x] zs3 d4 zs4 (.int .i64 0))(C5:Run c 33 [.int .i64 y] zs4 d5 zs5 (.int .i64 k)):Run c 31 [.int .i64 r,.int .i64 i,.int .i64 x] zs (d1+d2+d3+d4+d5) zs5 (.int .i64 0):=fun p m w hG=>by
 have hxb:(x !=0)=true:=by rw[bne_iff_ne];exact hx
 clear hx
 have hkz:¬0<k:=hk
 clear hk
 have HG:=hid hG
 have HC1:=hid C1
 have HC2:=hid C2
 have HC3:=hid C3
 have HC4:=hid C4
 have HC5:=hid C5
 clear hG C1 C2 C3 C4 C5
 go_enter Tryz.func31,Tryz.ntmps31
 have HT0:Hid (Touch (ah p) w w):=hid (Touch.refl _ _)
 go_wp2_with fail
 refine(HC1.out p _ _ HG.out).mono ?_
 rintro e wm1 ⟨rfl,hG,hT⟩
 have HG1:=hid hG
 have HT1:Hid (Touch (ah p) _ wm1):=hid (HT0.out.trans hT)
 clear hG hT
 go_wp2_with fail
 refine(HC2.out p _ _ HG1.out).mono ?_
 rintro e wm2 ⟨rfl,hG,hT⟩
 have HG2:=hid hG
 have HT2:Hid (Touch (ah p) _ wm2):=hid (HT1.out.trans hT)
 clear hG hT
 go_wp2_with fail
 refine(HC3.out p _ _ HG2.out).mono ?_
 rintro e wm3 ⟨rfl,hG,hT⟩
 have HG3:=hid hG
 have HT3:Hid (Touch (ah p) _ wm3):=hid (HT2.out.trans hT)
 clear hG hT
 go_wp2_with fail
 refine(HC4.out p _ _ HG3.out).mono ?_
 rintro e wm4 ⟨rfl,hG,hT⟩
 have HG4:=hid hG
 have HT4:Hid (Touch (ah p) _ wm4):=hid (HT3.out.trans hT)
 clear hG hT
 go_wp2_with fail
 refine(HC5.out p _ _ HG4.out).mono ?_
 rintro e wm5 ⟨rfl,hG,hT⟩
 have HG5:=hid hG
 have HT5:Hid (Touch (ah p) _ wm5):=hid (HT4.out.trans hT)
 clear hG hT
 go_wp2_with fail
 go_ret
 exact⟨rfl,HG5.out.gT rfl (by dsimp only;omega),HT5.out⟩
set_option maxHeartbeats 1000000 in
theorem EW{r i x y k:Int}{b b2:Bool}(hx:x≠0)(hk:0<k)(C1:Run c 73 [.int .i64 r] zs d1 zs1 (.bool true))(C2:Run c 70 [.int .i64 r,.int .i64 i] zs1 d2 zs2 (.tuple #[.int .i64 y,.int .i64 0]))(C3:Run c 16 [.int .i64 x] zs2 d3 zs3 (.bool true))(C4:Run c 71 [.int .i64 r,.int .i64 i,.int .i64 x] zs3 d4 zs4 (.int .i64 0))(C5:Run c 33 [.int .i64 y] zs4 d5 zs5 (.int .i64 k))(C6:Run c 88 [.int .i64 y] zs5 d6 zs6 (.bool b))(C7:Run c 89 [.int .i64 y] zs6 d7 zs7 (.bool b2)):Run c 31 [.int .i64 r,.int .i64 i,.int .i64 x] zs (d1+d2+d3+d4+d5+d6+d7) zs7 (.int .i64 0):=fun p m w hG=>by
 have hxb:(x !=0)=true:=by rw[bne_iff_ne];exact hx
 clear hx
 have hkp:0<k:=hk
 clear hk
 have HG:=hid hG
 have HC1:=hid C1
 have HC2:=hid C2
 have HC3:=hid C3
 have HC4:=hid C4
 have HC5:=hid C5
 have HC6:=hid C6
 have HC7:=hid C7
 clear hG C1 C2 C3 C4 C5 C6 C7
 go_enter Tryz.func31,Tryz.ntmps31
 have HT0:Hid (Touch (ah p) w w):=hid (Touch.refl _ _)
 go_wp2_with fail
 refine(HC1.out p _ _ HG.out).mono ?_
 rintro e wm1 ⟨rfl,hG,hT⟩
 have HG1:=hid hG
 have HT1:Hid (Touch (ah p) _ wm1):=hid (HT0.out.trans hT)
 clear hG hT
 go_wp2_with fail
 refine(HC2.out p _ _ HG1.out).mono ?_
 rintro e wm2 ⟨rfl,hG,hT⟩
 have HG2:=hid hG
 have HT2:Hid (Touch (ah p) _ wm2):=hid (HT1.out.trans hT)
 clear hG hT
 go_wp2_with fail
 refine(HC3.out p _ _ HG2.out).mono ?_
 rintro e wm3 ⟨rfl,hG,hT⟩
 have HG3:=hid hG
 have HT3:Hid (Touch (ah p) _ wm3):=hid (HT2.out.trans hT)
 clear hG hT
 go_wp2_with fail
 refine(HC4.out p _ _ HG3.out).mono ?_
 rintro e wm4 ⟨rfl,hG,hT⟩
 have HG4:=hid hG
 have HT4:Hid (Touch (ah p) _ wm4):=hid (HT3.out.trans hT)
 clear hG hT
 go_wp2_with fail
 refine(HC5.out p _ _ HG4.out).mono ?_
 rintro e wm5 ⟨rfl,hG,hT⟩
 have HG5:=hid hG
 have HT5:Hid (Touch (ah p) _ wm5):=hid (HT4.out.trans hT)
 clear hG hT
 go_wp2_with fail
 refine(HC6.out p _ _ HG5.out).mono ?_
 rintro e wm6 ⟨rfl,hG,hT⟩
 have HG6:=hid hG
 have HT6:Hid (Touch (ah p) _ wm6):=hid (HT5.out.trans hT)
 clear hG hT
 go_wp2_with fail
 refine(HC7.out p _ _ HG6.out).mono ?_
 rintro e wm7 ⟨rfl,hG,hT⟩
 have HG7:=hid hG
 have HT7:Hid (Touch (ah p) _ wm7):=hid (HT6.out.trans hT)
 clear hG hT
 go_wp2_with fail
 go_ret
 exact⟨rfl,HG7.out.gT rfl (by dsimp only;omega),HT7.out⟩
end
end Go.Proofs.YtjmifnljckmimaaGreat.Pk
