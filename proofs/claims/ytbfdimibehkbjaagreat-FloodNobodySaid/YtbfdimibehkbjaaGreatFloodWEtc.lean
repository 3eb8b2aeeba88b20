/-
  Texts laid together: FloodW, FloodRep, FloodHold, FloodDo, FloodPot, FloodRun, FloodLaw, FloodNob.
-/
import Derived.Test.YtbfdimibehkbjaaGreatRefSeeEtc
import Derived.Test.YtbfdimibehkbjaaGreatTintFn4Etc
import Derived.Test.YtbfdimibehkbjaaGreatGravCntEtc
import Derived.Test.YtbfdimibehkbjaaGreatGravGrownEtc
namespace Go.Proofs.YtbfdimibehkbjaaGreat.Pk
open Lib (hid)
open Go.RowKit
set_option linter.unusedVariables false
set_option linter.unusedSimpArgs false
set_option maxRecDepth 100000
section
variable (D:Wd)
def Wd.nE:Option Th→Wd
 |none=>{D with scan:=0}
 |some t=>if D.scanF<(t.pt.length:Int) then {D.touch (nth t.pt D.scanF.toNat) with scanF:=D.scanF+1} else {D with scan:=0}
def Wd.settle(r:Int):Wd:=D.mark r (fun m=>{m with shade:=D.parity,shadow:=D.eU r})
def Wd.dH(r:Int):Option Th→Wd
 |none=>D
 |some t=>if t.mr.dead then D else if D.eU r<t.mr.refs then(D.settle r).touch r else D.settle r
def Wd.Ev:Wd:={D.dH (D.aa+1) (D.find (D.aa+1)) with aa:=D.aa+1}
def Wd.bO:Bool:=decide (D.phase=2)&&(!decide (D.scan=0)|| !D.ring.isEmpty||decide (D.aa<(D.n:Int)))
def Wd.flood:Wd:=
 if D.bO then
  if D.scan=0 then
   match D.ring with
   |b::rest=>{D with ring:=rest,scan:=(b:Int)+1,scanF:=0}
   |[]=>D.Ev
  else D.nE (D.find D.scan)
 else D
end
def yF(D:Wd)(x:Int):Prop:=∀v,v∈D.live→(v.h:Int)+1=x→v.mr.dead=true∨v.mr.color=D.parity
def iR(D:Wd):Prop:=∀u,u∈D.live→u.mr.dead=false→u.mr.color=D.parity→∀i,i<u.pt.length→u.h∈D.ring∨((u.h:Int)+1=D.scan∧D.scanF≤(i:Int))∨yF D (nth u.pt i)
def QL(D D':Wd):Prop:=D'.parity=D.parity∧D'.scan=D.scan∧D'.scanF=D.scanF
section
variable {D D':Wd} {t u v:Th} {r x y:Int} {g:Th→Th}
theorem iR.upd(H:iR D)(S:aB D)(hf:D.find r=some t)(hts:D'.ts=bL r g D.ts)(hp:D'.parity=D.parity)(hsc:∀u:Th,u.mr.dead=false→(u.h:Int)+1=D.scan→u∈D'.live→D'.scan=D.scan)(hsf:D'.scanF=D.scanF)(hh:(g t).h=t.h)
  (hr:∀u:Th,u∈D'.live→u.mr.dead=false→u.h∈D.ring→u.h∈D'.ring)
  (hd:(g t).mr.dead=false→(g t).mr.color=D.parity→t.mr.dead=false∧t.mr.color=D.parity∧(g t).pt=t.pt)
  (hb:t.mr.dead=true∨t.mr.color=D.parity→(g t).mr.dead=true∨(g t).mr.color=D.parity):iR D':=by
 have htl:=(ae hf).1
 have hm:∀s,s∈D'.live→s=g t∨(s∈D.live∧s.h≠t.h):=fun s h=>by
  unfold Wd.live at h
  rw[hts] at h
  exact aS S.nd hf h
 have hN:∀x,yF D x→yF D' x:=fun x h v hv e=>by
  rw[hp]
  rcases hm v hv with rfl|⟨k,_⟩
  ·rw[hh] at e
   exact hb (h t htl e)
  ·exact h v k e
 intro u hu h1 h2 i hi
 rw[hp] at h2
 have key:∀s,s∈D.live→s.mr.dead=false→s.mr.color=D.parity→s.h=u.h→s.pt=u.pt→u.h∈D'.ring∨((u.h:Int)+1=D'.scan∧D'.scanF≤(i:Int))∨yF D' (nth u.pt i):=fun s hs k1 k2 e1 e2=>by
  rcases H s hs k1 k2 i (by rw[e2];exact hi) with h|h|h
  ·exact .inl (hr u hu h1 (by rw[←e1];exact h))
  ·refine .inr (.inl ?_)
   have e3:(u.h:Int)+1=D.scan:=by rw[←e1];exact h.1
   rw[hsc u h1 e3 hu,hsf]
   exact⟨e3,h.2⟩
  ·exact .inr (.inr (hN _ (by rw[←e2];exact h)))
 rcases hm u hu with rfl|⟨k,_⟩
 ·obtain⟨k1,k2,k3⟩:=hd h1 h2
  exact key t htl k1 k2 hh.symm k3.symm
 ·exact key u k h1 h2 rfl rfl
theorem iR.mark(H:iR D)(S:aB D)(r:Int){f:bZ→bZ}(hd:∀m,(f m).dead=m.dead)(hc:∀m,(f m).color=m.color):iR (D.mark r f):=by
 cases hf:D.find r with
 |none=>rw[bW f hf];exact H
 |some t=>exact H.upd (g:=fun t=>{t with mr:=f t.mr}) S hf rfl rfl (fun _ _ _ _=>rfl) rfl rfl (fun _ _ _ h=>h) (fun h1 h2=>⟨(hd _).symm.trans h1,(hc _).symm.trans h2,rfl⟩) (fun h=>by rw[show(({t with mr:=f t.mr}:Th).mr.dead)=t.mr.dead from hd _,show(({t with mr:=f t.mr}:Th).mr.color)=t.mr.color from hc _];exact h)
theorem iR.same(H:iR D)(h:D'.ts=D.ts)(h2:D'.ring=D.ring)(k:QL D D'):iR D':=by
 have hl:D'.live=D.live:=by unfold Wd.live;rw[h]
 unfold iR yF at*
 rw[hl,h2,k.1,k.2.1,k.2.2]
 exact H
theorem Cj{x:Int}:∀{l:List Nat},hasB (ints l) x=true→x.toNat∈l
 |[],h=>by simp[ints,hasB] at h
 |a::l,h=>by
  by_cases e:(a:Int)=x
  ·have:x.toNat=a:=by omega
   rw[this]
   exact List.mem_cons_self ..
  ·refine List.mem_cons_of_mem _ (Cj ?_)
   unfold hasB ints at h ⊢
   simp at h ⊢
   rcases h with h|h
   ·exact absurd h e
   ·exact h
theorem iR.touch(H:iR D)(S:aB D)(r:Int):iR (D.touch r):=by
 cases ht:D.dY r with
 |false=>
  have e:D.touch r=D:=by unfold Wd.touch;rw[ht];rfl
  rw[e]
  exact H
 |true=>
  cases hf:D.find r with
  |none=>unfold Wd.dY at ht;rw[hf] at ht;cases ht
  |some t=>
   obtain⟨htl,er⟩:=ae hf
   have e:D.touch r={D.gP r with ring:=if hasB (ints D.ring) (r-1) then D.ring else D.ring++[(r-1).toNat]}:=by unfold Wd.touch;rw[ht];rfl
   have hth:t.h=(r-1).toNat:=by omega
   have hin:t.h∈(D.touch r).ring:=by
    rw[e]
    show t.h∈(if hasB (ints D.ring) (r-1) then D.ring else D.ring++[(r-1).toNat])
    split
    ·rename_i hb
     rw[hth]
     exact Cj hb
    ·rw[hth]
     simp
   have hri:∀b,b∈D.ring→b∈(D.touch r).ring:=fun b hb=>by
    rw[e]
    show b∈(if hasB (ints D.ring) (r-1) then D.ring else D.ring++[(r-1).toNat])
    split
    ·exact hb
    ·exact List.mem_append_left _ hb
   have hsc:(D.touch r).scan=D.scan∧(D.touch r).scanF=D.scanF∧(D.touch r).parity=D.parity:=by rw[e];exact⟨rfl,rfl,rfl⟩
   have hm:∀s,s∈(D.touch r).live→s={t with mr:={t.mr with color:=D.parity}}∨(s∈D.live∧s.h≠t.h):=fun s h=>by
    rw[e] at h
    exact aS (g:=fun t=>{t with mr:={t.mr with color:=D.parity}}) S.nd hf h
   intro u hu h1 h2 i hi
   rcases hm u hu with rfl|⟨k,_⟩
   ·exact .inl hin
   ·rw[hsc.2.2] at h2
    rcases H u k h1 h2 i hi with h|h|h
    ·exact .inl (hri _ h)
    ·exact .inr (.inl (by rw[hsc.1,hsc.2.1];exact h))
    ·refine .inr (.inr (fun v hv e2=> ?_))
     rw[hsc.2.2]
     rcases hm v hv with rfl|⟨k2,_⟩
     ·exact .inr rfl
     ·exact h v k2 e2
theorem iR.aY(H:iR D)(S:aB D)(x:Int):iR (D.aY x):=by
 unfold Wd.aY
 cases hf:D.find x with
 |none=>exact H
 |some t=>
  simp only
  obtain⟨htl,er⟩:=ae hf
  split
  ·exact H
  ·rename_i hnd
   have hm:∀s,s∈(D.lay x t).live→s.mr.dead=false→s.h≠t.h:=fun s h h2=>by
    unfold Wd.live at h
    rw[jb] at h
    rcases aS (g:=fun s=>{s with mr:={s.mr with dead:=true,left:=(t.pt.length:Int),leaves:=(t.lv.length:Int)}}) S.nd hf h with rfl|⟨_,h3⟩
    ·cases h2
    ·exact h3
   refine H.upd (g:=fun s=>{s with mr:={s.mr with dead:=true,left:=(t.pt.length:Int),leaves:=(t.lv.length:Int)}}) S hf (jb x t) rfl (fun u h1 h2 hu=> ?_) rfl rfl (fun u hu h1 h2=> ?_) (fun h _=>by cases h) (fun _=>.inl rfl)
   ·have:=hm u hu h1
    show(if D.scan=x then 0 else D.scan)=D.scan
    rw[if_neg (by omega)]
   ·have:=hm u hu h1
    show u.h∈D.ring.filter (fun b=>b !=t.h)
    exact List.mem_filter.2 ⟨h2,by simpa using this⟩
theorem iR.inter(H:iR D)(S:aB D)(x:Int):iR (D.inter x):=by
 unfold Wd.inter
 split
 ·exact H.aY S x
 ·exact H
theorem iR.less(H:iR D)(S:aB D)(r:Int):iR (D.less r):=
 iR.inter (D:=(D.down r).qJ) ((H.mark S r (f:=fun m=>{m with refs:=m.refs-1}) (fun _=>rfl) (fun _=>rfl)).same rfl rfl ⟨rfl,rfl,rfl⟩) (S.down r).qJ r
theorem iR.more(H:iR D)(S:aB D)(r:Int):iR (D.more r):=(H.mark S r (f:=fun m=>{m with refs:=m.refs+1}) (fun _=>rfl) (fun _=>rfl)).touch (S.up r) r
theorem iR.ai(H:iR D)(S:aB D)(hf:D.find r=some t){i:Nat}(hi:i<t.pt.length)(hx:t.mr.dead=true∨yF D x):iR (D.ai r i x):=by
 obtain⟨htl,er⟩:=ae hf
 have hm:∀s,s∈(D.ai r i x).live→s={t with pt:=t.pt.set i x}∨(s∈D.live∧s.h≠t.h):=fun s h=>aS (g:=fun t=>{t with pt:=t.pt.set i x}) S.nd hf h
 have hN:∀x',yF D x'→yF (D.ai r i x) x':=fun x' h v hv e=>by
  rcases hm v hv with rfl|⟨k,_⟩
  ·exact h t htl e
  ·exact h v k e
 intro u hu h1 h2 j hj
 rcases hm u hu with rfl|⟨k,_⟩
 ·have h1:t.mr.dead=false:=h1
  by_cases e:i=j
  ·subst e
   rcases hx with h|h
   ·rw[h1] at h
    cases h
   ·refine .inr (.inr ?_)
    show yF _ (nth (t.pt.set i x) i)
    rw[aH hi]
    exact hN _ h
  ·rcases H t htl h1 h2 j (by simpa using hj) with h|h|h
   ·exact .inl h
   ·exact .inr (.inl h)
   ·refine .inr (.inr ?_)
    show yF _ (nth (t.pt.set i x) j)
    rw[af e]
    exact hN _ h
 ·rcases H u k h1 h2 j hj with h|h|h
  ·exact .inl h
  ·exact .inr (.inl h)
  ·exact .inr (.inr (hN _ h))
theorem yF.zero:yF D 0:=fun v _ e=>by omega
theorem iR.drain(H:iR D)(S:aB D)(hf:D.find r=some t)(hd:t.mr.dead=true){i:Nat}(hi:i<t.pt.length)(x:Int):iR (D.drain r i x):=by
 have S1:=S.ai hf i (x:=0) (fun _=>rfl)
 have H1:iR (D.ai r i 0):=H.ai S hf hi (.inl hd)
 have key:∀D2:Wd,aB D2→iR D2→iR ((D2.down x).inter x):=fun D2 S2 H2=>(H2.mark S2 x (f:=fun m=>{m with refs:=m.refs-1}) (fun _=>rfl) (fun _=>rfl)).inter (S2.down x) x
 unfold Wd.drain
 by_cases hc:(D.ai r i 0).cnt x=0
 ·rw[if_pos hc]
  exact H1
 ·rw[if_neg hc]
  have K:aB (if(D.ai r i 0).counted r i then(D.ai r i 0).av x else D.ai r i 0)∧iR (if(D.ai r i 0).counted r i then(D.ai r i 0).av x else D.ai r i 0):=by
   split
   ·refine⟨S1.av x,?_⟩
    unfold Wd.av
    split
    ·exact H1.mark S1 x (f:=fun m=>{m with shadow:=m.shadow-1}) (fun _=>rfl) (fun _=>rfl)
    ·exact H1
   ·exact⟨S1,H1⟩
  exact key _ K.1 K.2
theorem iR.step(H:iR D)(S:aB D):iR D.step:=by
 cases hg:D.grave with
 |nil=>rw[show D.step=D by unfold Wd.step;rw[hg]];exact H
 |cons q rest=>
  obtain⟨t,htl,e,hf,hd,d,es⟩:=S.head hg
  rw[es]
  unfold Wd.work
  have hw:=S.w
  by_cases ha:D.ahead t.mr.leaves<t.mr.left
  ·have h0:0≤D.ahead t.mr.leaves:=by
    unfold Wd.ahead
    refine Int.mul_nonneg ?_ (by omega)
    split<;>omega
   rw[if_pos ha]
   have hi:(t.mr.left-1).toNat<t.pt.length:=by have:=d.f1;omega
   exact(H.drain S hf hd hi _).mark (S.drain hf _ _) _ (fun _=>rfl) (fun _=>rfl)
  ·rw[if_neg ha]
   by_cases hl:0<t.mr.leaves
   ·rw[if_pos hl]
    exact H.upd (g:=fun s=>{s with lv:=s.lv.set (t.mr.leaves-1).toNat (-1),mr:={s.mr with leaves:=t.mr.leaves-1}}) S hf (gH _ _ _ _) rfl (fun _ _ _ _=>rfl) rfl rfl (fun _ _ _ h=>h) (fun h1 h2=>⟨h1,h2,rfl⟩) (fun h=>h)
   ·rw[if_neg hl]
    have hlive:({({D with grave:=rest}:Wd).ib (q:Int) t.h with pending:=D.pending-1}:Wd).live=D.live.filter (fun s=>s.h !=t.h):=dK (g:=fun s=>{s with ended:=true}) (fun _=>rfl) S.nd hf
    intro u hu h1 h2 i hi
    rw[hlive] at hu
    rcases H u (List.mem_filter.1 hu).1 h1 h2 i hi with h|h|h
    ·exact .inl h
    ·exact .inr (.inl h)
    ·refine .inr (.inr (fun v hv e2=> ?_))
     rw[hlive] at hv
     exact h v (List.mem_filter.1 hv).1 e2
theorem iR.born{N:Nat}(H:iR D)(S:aB D)(B:jN D x y N):iR (D.born x y):=by
 unfold Wd.born
 by_cases hE:D.nZ x y=0
 ·rw[if_pos hE]
  have S1:=B.san S
  have eR:D.gz x y=(D.nu:Int)+1:=by unfold Wd.gz;rw[if_pos hE]
  have eD:D.dm x y=D.made D.nu (D.clean.tail.take (D.uL x y)) (D.clean.tail.drop (D.uL x y)) x.toNat y.toNat:=by unfold Wd.dm;rw[if_pos hE]
  have hlv:(D.dm x y).live=D.live++[⟨D.nu,ints (D.clean.tail.take (D.uL x y)),gU x.toNat,gU y.toNat,false,bZ.new⟩]:=by rw[eD,dh]
  have hpar:(D.dm x y).parity=D.parity∧(D.dm x y).ring=D.ring∧(D.dm x y).scan=D.scan∧(D.dm x y).scanF=D.scanF:=by rw[eD];exact⟨rfl,rfl,rfl,rfl⟩
  have hm:∀s,s∈((D.dm x y).kw (D.gz x y)).live→(s.mr.color=D.parity∧∀i,nth s.pt i=0)∨((s.mr.color=D.parity)∧∃v,v∈D.live∧s.h=v.h∧(v.h:Int)+1=D.gz x y)∨∃v,v∈D.live∧s.h=v.h∧s.mr=v.mr∧s.pt=v.pt:=fun s hs=>by
   obtain⟨v,hv,e1,e2,h⟩:=bP S1 hs
   rw[hlv] at hv
   rcases h with⟨k1,k2⟩|⟨k1,k2⟩
   ·rcases List.mem_append.1 hv with h|h
    ·exact .inr (.inl ⟨by rw[k2];exact hpar.1,v,h,e1,k1⟩)
    ·obtain rfl:=List.mem_singleton.1 h
     exact .inl ⟨by rw[k2];exact hpar.1,fun i=>by rw[e2];exact rO _ i⟩
   ·rcases List.mem_append.1 hv with h|h
    ·exact .inr (.inr ⟨v,h,e1,k2,e2⟩)
    ·obtain rfl:=List.mem_singleton.1 h
     exact absurd eR.symm k1
  have hfr:=B.fresh hE
  have hno:∀v,v∈D.live→(v.h:Int)+1≠D.gz x y:=fun v hv e=>hfr v hv (by omega)
  refine iR.more (D:=(D.dm x y).kw (D.gz x y)) ?_ (S1.mark _ (fun _=>rfl) (fun _=>rfl) (fun _=>rfl)) _
  have hN:∀x',yF D x'→yF ((D.dm x y).kw (D.gz x y)) x':=fun x' h v hv e=>by
   show v.mr.dead=true∨v.mr.color=(D.dm x y).parity
   rw[hpar.1]
   rcases hm v hv with⟨k,_⟩|⟨k,_⟩|⟨s,hs,e1,e2,_⟩
   ·exact .inr k
   ·exact .inr k
   ·rw[e2]
    exact h s hs (by rw[←e1];exact e)
  intro u hu h1 h2 i hi
  have h2:u.mr.color=(D.dm x y).parity:=h2
  rw[hpar.1] at h2
  show u.h∈(D.dm x y).ring∨((u.h:Int)+1=(D.dm x y).scan∧(D.dm x y).scanF≤(i:Int))∨_
  rw[hpar.2.1,hpar.2.2.1,hpar.2.2.2]
  rcases hm u hu with⟨_,k⟩|⟨_,v,hv,_,k⟩|⟨s,hs,e1,e2,e3⟩
  ·exact .inr (.inr (by rw[k i];exact yF.zero))
  ·exact absurd k (hno v hv)
  ·rw[e2] at h1 h2
   rcases H s hs h1 h2 i (by rw[←e3];exact hi) with h|h|h
   ·exact .inl (by rw[e1];exact h)
   ·exact .inr (.inl (by rw[e1];exact h))
   ·exact .inr (.inr (by rw[e3];exact hN _ h))
 ·rw[if_neg hE]
  exact H
theorem zy(S:aB D)(hp:D.phase≠0)(x:Int):yF (D.touch x) x:=fun v hv e=>by
 cases hd:v.mr.dead with
 |true=>exact .inl rfl
 |false=>exact .inr ((touched S hp v hv e hd).trans (fG x).1.symm)
theorem yF.upd(h:yF D x)(S:aB D)(hf:D.find r=some t)(hts:D'.ts=bL r g D.ts)(hp:D'.parity=D.parity)(hh:(g t).h=t.h)(hb:t.mr.dead=true∨t.mr.color=D.parity→(g t).mr.dead=true∨(g t).mr.color=D.parity):yF D' x:=fun v hv e=>by
 unfold Wd.live at hv
 rw[hts] at hv
 rw[hp]
 rcases aS S.nd hf hv with rfl|⟨k,_⟩
 ·rw[hh] at e
  exact hb (h t (ae hf).1 e)
 ·exact h v k e
theorem iR.put(H:iR D)(S:aB D)(hp:D.phase≠0)(hf:D.find r=some t)(hd:t.mr.dead=false){i:Nat}(hi:i<t.pt.length):iR (D.put r i x y):=by
 have h1:aB (D.fV r i x)∧iR (D.fV r i x):=by
  unfold Wd.fV
  by_cases hx0:x=0
  ·rw[if_pos hx0]
   exact⟨S.ai hf i (fun h=>by rw[hd] at h;cases h),H.ai S hf hi (.inr (by rw[hx0];exact yF.zero))⟩
  ·rw[if_neg hx0]
   obtain⟨m,hf1,hm1⟩:=gu r hf x
   have S1:=S.more x
   exact⟨S1.ai hf1 i (fun h=>by have h:m.dead=true:=h;rw[hm1,hd] at h;cases h),(H.more S x).ai S1 hf1 hi (.inr (zy (S.up x) hp x))⟩
 unfold Wd.put Wd.qf
 split
 ·exact(h1.2.touch h1.1 y).less (h1.1.touch y) y
 ·exact h1.2
theorem iR.tally(H:iR D)(S:aB D):iR D.tally:=by
 unfold Wd.tally
 split
 ·unfold Wd.iF
  split
  ·exact H.same rfl rfl ⟨rfl,rfl,rfl⟩
  ·split
   ·exact H.same rfl rfl ⟨rfl,rfl,rfl⟩
   ·split
    ·exact(H.mark S _ (f:=fun m=>{m with shade:=D.parity,shadow:=D.eU (nth _ D.field.toNat)+1}) (fun _=>rfl) (fun _=>rfl)).same rfl rfl ⟨rfl,rfl,rfl⟩
    ·exact(H.mark S _ (f:=fun m=>{m with count:=D.parity}) (fun _=>rfl) (fun _=>rfl)).same rfl rfl ⟨rfl,rfl,rfl⟩
 ·exact H
theorem aB.jM(S:aB D)(o:Option Th):aB (D.nE o):=by
 unfold Wd.nE
 split
 ·exact S.fF rfl rfl rfl rfl (fun b hb=>.inl hb)
 ·split
  ·exact(S.touch _).fF rfl rfl rfl rfl (fun b hb=>.inl hb)
  ·exact S.fF rfl rfl rfl rfl (fun b hb=>.inl hb)
theorem aB.settle(S:aB D)(r:Int):aB (D.settle r):=S.mark r (fun _=>rfl) (fun _=>rfl) (fun _=>rfl)
theorem aB.dH(S:aB D)(r:Int)(o:Option Th):aB (D.dH r o):=by
 unfold Wd.dH
 split
 ·exact S
 ·split
  ·exact S
  ·split
   ·exact(S.settle r).touch r
   ·exact S.settle r
theorem aB.flood(S:aB D):aB D.flood:=by
 unfold Wd.flood
 split
 ·split
  ·split
   ·rename_i b rest hr
    exact S.fF rfl rfl rfl rfl (fun c hc=>.inl (by rw[hr];exact List.mem_cons_of_mem _ hc))
   ·exact(S.dH _ _).fF rfl rfl rfl rfl (fun b hb=>.inl hb)
  ·exact S.jM _
 ·exact S
theorem iR.dH(H:iR D)(S:aB D)(r:Int)(o:Option Th):iR (D.dH r o):=by
 have hs:iR (D.settle r):=H.mark S r (f:=fun m=>{m with shade:=D.parity,shadow:=D.eU r}) (fun _=>rfl) (fun _=>rfl)
 unfold Wd.dH
 split
 ·exact H
 ·split
  ·exact H
  ·split
   ·exact hs.touch (S.settle r) r
   ·exact hs
theorem iR.flood(H:iR D)(S:aB D)(hF:0≤D.scanF):iR D.flood:=by
 unfold Wd.flood
 cases hb:D.bO with
 |false=>rw[if_neg (by decide)];exact H
 |true=>
  rw[if_pos rfl]
  have hp:D.phase≠0:=by
   unfold Wd.bO at hb
   simp at hb
   omega
  by_cases hs:D.scan=0
  ·rw[if_pos hs]
   cases hr:D.ring with
   |nil=>exact(H.dH S _ _).same rfl rfl ⟨rfl,rfl,rfl⟩
   |cons b rest=>
    intro u hu h1 h2 i hi
    rcases H u hu h1 h2 i hi with h|h|h
    ·rw[hr] at h
     rcases List.mem_cons.1 h with h|h
     ·exact .inr (.inl ⟨by show(u.h:Int)+1=(b:Int)+1;rw[h],by show(0:Int)≤_;omega⟩)
     ·exact .inl h
    ·omega
    ·exact .inr (.inr h)
  ·rw[if_neg hs]
   unfold Wd.nE
   cases hf:D.find D.scan with
   |none=>
    simp only
    intro u hu h1 h2 i hi
    rcases H u hu h1 h2 i hi with h|h|h
    ·exact .inl h
    ·have:=S.bE hu
     rw[h.1,hf] at this
     cases this
    ·exact .inr (.inr h)
   |some t=>
    simp only
    obtain⟨htl,er⟩:=ae hf
    by_cases hff:D.scanF<(t.pt.length:Int)
    ·rw[if_pos hff]
     have H1:=H.touch S (nth t.pt D.scanF.toNat)
     have hsc:(D.touch (nth t.pt D.scanF.toNat)).scan=D.scan∧(D.touch (nth t.pt D.scanF.toNat)).scanF=D.scanF:=by
      unfold Wd.touch
      split<;>exact⟨rfl,rfl⟩
     intro u hu h1 h2 i hi
     rcases H1 u hu h1 h2 i hi with h|h|h
     ·exact .inl h
     ·rw[hsc.1,hsc.2] at h
      by_cases e:(i:Int)=D.scanF
      ·refine .inr (.inr ?_)
       have hut:u.pt=t.pt:=by
        obtain⟨k,hk⟩:=qK D.scan hf (nth t.pt D.scanF.toNat)
        have h3:=(S.touch (nth t.pt D.scanF.toNat)).bE hu
        rw[h.1,hk] at h3
        rw[←Option.some.inj h3]
       have hit:i=D.scanF.toNat:=by omega
       rw[hut,hit]
       exact zy S hp _
      ·refine .inr (.inl ⟨?_,?_⟩)
       ·show _=(D.touch (nth t.pt D.scanF.toNat)).scan
        rw[hsc.1]
        exact h.1
       ·show D.scanF+1≤(i:Int)
        omega
     ·exact .inr (.inr h)
    ·rw[if_neg hff]
     intro u hu h1 h2 i hi
     rcases H u hu h1 h2 i hi with h|h|h
     ·exact .inl h
     ·have h3:=S.bE hu
      rw[h.1,hf] at h3
      rw[←Option.some.inj h3] at hi
      omega
     ·exact .inr (.inr h)
theorem iR.turn(h:∀t,t∈D.live→t.mr.color=0)(hp:D.parity=0):iR (D.turn.begin 1):=fun u hu h1 h2 i hi=>by
 have h3:=h u hu
 have h4:(D.turn.begin 1).parity=1:=by
  show 1-D.parity=1
  rw[hp]
  rfl
 rw[h3,h4] at h2
 cases h2
end
theorem QC:∀x:Nat,x<128→x ^^^ 16=if x/16%2=0 then x+16 else x-16:=by decide
theorem NL{x:Int}(hx:dC x)(hk:bF x):bits .xor .u32 x 16=dW x (uC x) (uN x) (1-uS x) (uD x):=by
 obtain⟨hr,h128,h0⟩:=hx
 unfold bN at hr
 unfold bF at hk
 have hlt:x<128:=by
  have h1:uO x=0:=by omega
  unfold uO at h1
  omega
 obtain⟨X,rfl⟩:=Int.eq_ofNat_of_zero_le h0
 rw[u32_xor _ _ (by omega) (by omega) (by omega) (by omega),Int.toNat_natCast,show(16:Int).toNat=16 from rfl,QC X (by omega)]
 unfold dW packI uK uC uN uS uD uG
 split<;>omega
theorem GH{r:Int}{t:Th}{g:Th→Th}:∀{l:List Th},bu r l=some t→g t=t→bL r g l=l
 |u::l,h,hg=>by
  unfold bu at h
  unfold bL
  cases hu:u.at r with
  |true=>
   rw[hu] at h
   simp at h
   subst h
   rw[if_pos rfl,hg]
  |false=>
   rw[hu] at h
   simp at h
   rw[if_neg (by simp),GH h hg]
section
variable {c:Cf} {zs:List Int} {D:Wd} {t:Th} {r:Int}
theorem IM(hf:D.find r=some t)(h:t.mr.shade=D.parity):D.settle r=D:=by
 have hs:D.eU r=t.mr.shadow:=by unfold Wd.eU;rw[hf];simp only;rw[if_pos h]
 have:bL r (fun t=>{t with mr:={t.mr with shade:=D.parity,shadow:=D.eU r}}) D.ts=D.ts:=GH (t:=t) hf (by
  show({t with mr:={t.mr with shade:=D.parity,shadow:=D.eU r}}:Th)=t
  rw[hs,←h])
 show({D with ts:=bL r (fun t=>{t with mr:={t.mr with shade:=D.parity,shadow:=D.eU r}}) D.ts}:Wd)=D
 rw[this]
theorem uU(hf:D.find r=some t):(D.settle r).find r=some {t with mr:={t.mr with shade:=D.parity,shadow:=D.eU r}}:=gZ _ hf
theorem ES(hf:D.find r=some t):(D.settle r).eU r=D.eU r:=by
 show(match(D.settle r).find r with|none=>0|some t=>if t.mr.shade=D.parity then t.mr.shadow else 0)=_
 rw[uU hf]
 simp
theorem ER(hf:D.find r=some t):(D.settle r).cnt r=t.mr.refs:=by
 unfold Wd.cnt
 rw[uU hf]
theorem IV(R:aA c zs D)(hz:Wz c zs)(hf:D.find r=some t)(hs:t.mr.shade≠D.parity):
  aA c ((zs.set (adr c t.h 0) (dW (nth zs (adr c t.h 0)) (uC (nth zs (adr c t.h 0))) (uN (nth zs (adr c t.h 0))) (1-uS (nth zs (adr c t.h 0))) (uD (nth zs (adr c t.h 0))))).set (adr c t.h 4) 0) (D.settle r):=by
 obtain⟨h1,h2,h3,h4,h5⟩:=R.gy hf
 have hp:=R.par
 have h01:=(bT (nth zs (adr c t.h 0))).2.2.1
 have e1:1-uS (nth zs (adr c t.h 0))=D.parity:=by
  have:=h5.cS
  omega
 have es:D.eU r=0:=by unfold Wd.eU;rw[hf];simp only;rw[if_neg hs]
 rw[e1]
 have R1:=ui R hf hz (bT _).1 (bT _).2.1 R.par (.inl rfl) (fun m=>{m with shade:=D.parity}) (by simp only;rw[h5.cC,h5.cN,h5.yM])
 have R2:=R1.jD hz.may (by simp;exact hz.len) (gZ _ hf) (v:=4) (.inr rfl) (x:=0) (f:=fun m=>{m with shadow:=0}) rfl
 rw[mh] at R2
 unfold Wd.settle
 rw[es]
 exact R2
theorem Di(R:aA c zs D)(hz:Wz c zs){b:Nat}{rest:List Nat}(hr:D.ring=b::rest):aA c (aO c b zs) {D with ring:=rest}:=by
 obtain⟨u,hu,e⟩:=R.vN hz.may (x:=b) (by rw[hr];exact List.mem_cons_self ..)
 have hf:=R.bE hu
 have h:=xB R hz hf (by rw[hr,e];exact List.mem_cons_self ..)
 have hnd:=R.ring.nd
 rw[hr,List.nodup_cons] at hnd
 have e2:D.bv u.h={D with ring:=rest}:=by
  unfold Wd.bv
  congr 1
  rw[hr,e,List.filter_cons_of_neg (by simp)]
  exact List.filter_eq_self.2 (fun x hx=>by
   have:x≠b:=fun e3=>hnd.1 (by rw[←e3];exact hx)
   simpa using this)
 rw[e2,e] at h
 exact h
theorem aA.Al(R:aA c zs D)(hz:Wz c zs)(x:Int):aA c (zs.set 14 x) {D with scan:=x}:=by
 refine R.jR hz.may hz.len (k:=14) (by omega) (by omega) rfl rfl rfl rfl rfl rfl rfl rfl (fun j h1 h2 h3=> ?_) R.par
 have:j=10∨j=11∨j=12∨j=13∨j=15∨j=16∨j=17∨j=18:=by omega
 rcases this with rfl|rfl|rfl|rfl|rfl|rfl|rfl|rfl<;>rfl
theorem aA.CP(R:aA c zs D)(hz:Wz c zs)(x:Int):aA c (zs.set 15 x) {D with scanF:=x}:=by
 refine R.jR hz.may hz.len (k:=15) (by omega) (by omega) rfl rfl rfl rfl rfl rfl rfl rfl (fun j h1 h2 h3=> ?_) R.par
 have:j=10∨j=11∨j=12∨j=13∨j=14∨j=16∨j=17∨j=18:=by omega
 rcases this with rfl|rfl|rfl|rfl|rfl|rfl|rfl|rfl<;>rfl
theorem aA.scans(R:aA c zs D)(hz:Wz c zs):(0≤D.scan∧D.scan≤4294967295)∧0≤D.scanF∧D.scanF≤4294967295:=by
 have h1:=R.reg 14 (by omega) (by omega)
 have h2:=R.reg 15 (by omega) (by omega)
 have e1:D.reg 14=D.scan:=rfl
 have e2:D.reg 15=D.scanF:=rfl
 rw[e1] at h1
 rw[e2] at h2
 have b1:=hz.wf 14
 have b2:=hz.wf 15
 rw[←h1,←h2]
 exact⟨b1,b2⟩
end
structure dA (D D':Wd):Prop where
 par:D'.parity=D.parity
 sc:D.scan=0→D'.scan=0
 sf:0≤D.scanF→0≤D'.scanF
 mem:∀s,s∈D'.live→(s.mr.color=D.parity∧s.mr.count=D.parity)∨∃v,v∈D.live∧s.h=v.h∧(s.mr.dead=false→v.mr.dead=false)∧(v.mr.color=D.parity→s.mr.color=D.parity)∧(v.mr.count=D.parity→s.mr.count=D.parity)
def GJ(D:Wd):Prop:=∀u,u∈D.live→u.mr.count=D.parity
def VH(hold:Nat→Nat)(D:Wd):Prop:=∀u,u∈D.live→u.mr.dead=false→0<hold u.h→(u.h:Int)<D.aa→u.mr.color=D.parity
section
variable {D D' D2:Wd} {t u v s:Th} {r x y:Int} {g:Th→Th} {E:Int→Prop} {hold hold':Nat→Nat}
theorem dA.refl(D:Wd):dA D D:=⟨rfl,fun h=>h,fun h=>h,fun s hs=>.inr ⟨s,hs,rfl,fun h=>h,fun h=>h,fun h=>h⟩⟩
theorem dA.trans(h:dA D D')(k:dA D' D2):dA D D2:=⟨k.par.trans h.par,fun e=>k.sc (h.sc e),fun e=>k.sf (h.sf e),fun s hs=>by
 rcases k.mem s hs with⟨a,b⟩|⟨v,hv,e1,e2,e3,e4⟩
 ·exact .inl ⟨a.trans h.par,b.trans h.par⟩
 ·rw[h.par] at e3 e4
  rcases h.mem v hv with⟨a,b⟩|⟨u,hu,f1,f2,f3,f4⟩
  ·exact .inl ⟨e3 a,e4 b⟩
  ·exact .inr ⟨u,hu,e1.trans f1,fun z=>f2 (e2 z),fun z=>e3 (f3 z),fun z=>e4 (f4 z)⟩⟩
theorem dA.same(h:D'.ts=D.ts)(hp:D'.parity=D.parity)(hs:D'.scan=D.scan)(hf:D'.scanF=D.scanF):dA D D':=by
 have hl:D'.live=D.live:=by unfold Wd.live;rw[h]
 refine⟨hp,fun e=>hs.trans e,fun e=>by rw[hf];exact e,fun s hs=> ?_⟩
 rw[hl] at hs
 exact .inr ⟨s,hs,rfl,fun h=>h,fun h=>h,fun h=>h⟩
theorem dA.upd(S:aB D)(hf:D.find r=some t)(hts:D'.ts=bL r g D.ts)(hp:D'.parity=D.parity)(hs:D.scan=0→D'.scan=0)(hsf:D'.scanF=D.scanF)(hh:(g t).h=t.h)(h1:(g t).mr.dead=false→t.mr.dead=false)(h2:t.mr.color=D.parity→(g t).mr.color=D.parity)(h3:t.mr.count=D.parity→(g t).mr.count=D.parity):dA D D':=
 ⟨hp,hs,fun e=>by rw[hsf];exact e,fun s k=>by
  unfold Wd.live at k
  rw[hts] at k
  rcases aS S.nd hf k with rfl|⟨k,_⟩
  ·exact .inr ⟨t,(ae hf).1,hh,h1,h2,h3⟩
  ·exact .inr ⟨s,k,rfl,fun h=>h,fun h=>h,fun h=>h⟩⟩
theorem dA.mark(S:aB D)(r:Int){f:bZ→bZ}(h1:∀m,(f m).dead=false→m.dead=false)(h2:∀m,m.color=D.parity→(f m).color=D.parity)(h3:∀m,m.count=D.parity→(f m).count=D.parity):dA D (D.mark r f):=by
 cases hf:D.find r with
 |none=>rw[bW f hf];exact dA.refl D
 |some t=>exact dA.upd (g:=fun t=>{t with mr:=f t.mr}) S hf rfl rfl (fun h=>h) rfl rfl (h1 _) (h2 _) (h3 _)
theorem dA.touch(S:aB D)(r:Int):dA D (D.touch r):=by
 unfold Wd.touch
 split
 ·exact(dA.mark S r (f:=fun m=>{m with color:=D.parity}) (fun _ h=>h) (fun _ _=>rfl) (fun _ h=>h)).trans (dA.same rfl rfl rfl rfl)
 ·exact dA.refl D
theorem dA.aY(S:aB D)(x:Int):dA D (D.aY x):=by
 unfold Wd.aY
 cases hf:D.find x with
 |none=>exact dA.refl D
 |some t=>
  simp only
  split
  ·exact dA.refl D
  ·exact dA.upd (g:=fun s=>{s with mr:={s.mr with dead:=true,left:=(t.pt.length:Int),leaves:=(t.lv.length:Int)}}) S hf (jb x t) rfl (fun h=>by
    show(if D.scan=x then 0 else D.scan)=0
    split
    ·rfl
    ·exact h) rfl rfl (fun h=>by cases h) (fun h=>h) (fun h=>h)
theorem dA.inter(S:aB D)(x:Int):dA D (D.inter x):=by
 unfold Wd.inter
 split
 ·exact dA.aY S x
 ·exact dA.refl D
theorem dA.down(S:aB D)(r:Int):dA D (D.down r):=dA.mark S r (f:=fun m=>{m with refs:=m.refs-1}) (fun _ h=>h) (fun _ h=>h) (fun _ h=>h)
theorem dA.up(S:aB D)(r:Int):dA D (D.up r):=dA.mark S r (f:=fun m=>{m with refs:=m.refs+1}) (fun _ h=>h) (fun _ h=>h) (fun _ h=>h)
theorem dA.less(S:aB D)(r:Int):dA D (D.less r):=((dA.down S r).trans (D2:=(D.down r).qJ) (dA.same rfl rfl rfl rfl)).trans (dA.inter (D:=(D.down r).qJ) (S.down r).qJ r)
theorem dA.more(S:aB D)(r:Int):dA D (D.more r):=(dA.up S r).trans (dA.touch (S.up r) r)
theorem dA.ai(S:aB D)(hf:D.find r=some t)(i:Nat)(x:Int):dA D (D.ai r i x):=
 dA.upd (g:=fun t=>{t with pt:=t.pt.set i x}) S hf rfl rfl (fun h=>h) rfl rfl (fun h=>h) (fun h=>h) (fun h=>h)
theorem dA.av(S:aB D)(x:Int):dA D (D.av x):=by
 unfold Wd.av
 split
 ·exact dA.mark S x (f:=fun m=>{m with shadow:=m.shadow-1}) (fun _ h=>h) (fun _ h=>h) (fun _ h=>h)
 ·exact dA.refl D
theorem dA.drain(S:aB D)(hf:D.find r=some t)(i:Nat)(x:Int):dA D (D.drain r i x):=by
 have S1:=S.ai hf i (x:=0) (fun _=>rfl)
 have key:∀D2:Wd,aB D2→dA D D2→dA D ((D2.down x).inter x):=fun D2 S2 H2=>(H2.trans (dA.down S2 x)).trans (dA.inter (S2.down x) x)
 unfold Wd.drain
 by_cases hc:(D.ai r i 0).cnt x=0
 ·rw[if_pos hc]
  exact dA.ai S hf i 0
 ·rw[if_neg hc]
  have K:aB (if(D.ai r i 0).counted r i then(D.ai r i 0).av x else D.ai r i 0)∧dA D (if(D.ai r i 0).counted r i then(D.ai r i 0).av x else D.ai r i 0):=by
   split
   ·exact⟨S1.av x,(dA.ai S hf i 0).trans (dA.av S1 x)⟩
   ·exact⟨S1,dA.ai S hf i 0⟩
  exact key _ K.1 K.2
theorem dA.step(S:aB D):dA D D.step:=by
 cases hg:D.grave with
 |nil=>rw[show D.step=D by unfold Wd.step;rw[hg]];exact dA.refl D
 |cons q rest=>
  obtain⟨t,htl,e,hf,hd,d,es⟩:=S.head hg
  rw[es]
  unfold Wd.work
  split
  ·exact(dA.drain S hf _ _).trans (dA.mark (S.drain hf _ _) _ (fun _ h=>h) (fun _ h=>h) (fun _ h=>h))
  ·split
   ·exact dA.upd (g:=fun s=>{s with lv:=s.lv.set (t.mr.leaves-1).toNat (-1),mr:={s.mr with leaves:=t.mr.leaves-1}}) S hf (gH _ _ _ _) rfl (fun h=>h) rfl rfl (fun h=>h) (fun h=>h) (fun h=>h)
   ·have hlive:({({D with grave:=rest}:Wd).ib (q:Int) t.h with pending:=D.pending-1}:Wd).live=D.live.filter (fun s=>s.h !=t.h):=dK (g:=fun s=>{s with ended:=true}) (fun _=>rfl) S.nd hf
    refine⟨rfl,fun h=>h,fun h=>h,fun s hs=> ?_⟩
    rw[hlive] at hs
    exact .inr ⟨s,(List.mem_filter.1 hs).1,rfl,fun h=>h,fun h=>h,fun h=>h⟩
theorem dA.born{N:Nat}(S:aB D)(B:jN D x y N):dA D (D.born x y):=by
 unfold Wd.born
 by_cases hE:D.nZ x y=0
 ·rw[if_pos hE]
  have S1:=B.san S
  have eR:D.gz x y=(D.nu:Int)+1:=by unfold Wd.gz;rw[if_pos hE]
  have eD:D.dm x y=D.made D.nu (D.clean.tail.take (D.uL x y)) (D.clean.tail.drop (D.uL x y)) x.toNat y.toNat:=by unfold Wd.dm;rw[if_pos hE]
  have hlv:(D.dm x y).live=D.live++[⟨D.nu,ints (D.clean.tail.take (D.uL x y)),gU x.toNat,gU y.toNat,false,bZ.new⟩]:=by rw[eD,dh]
  have hpar:(D.dm x y).parity=D.parity∧(D.dm x y).scan=D.scan∧(D.dm x y).scanF=D.scanF:=by rw[eD];exact⟨rfl,rfl,rfl⟩
  have h1:dA D ((D.dm x y).kw (D.gz x y)):=by
   refine⟨hpar.1,fun h=>hpar.2.1.trans h,fun h=>by show 0≤(D.dm x y).scanF;rw[hpar.2.2];exact h,fun s hs=> ?_⟩
   obtain⟨v,hv,e1,e2,h⟩:=bP S1 hs
   rw[hlv] at hv
   rcases h with⟨k1,k2⟩|⟨k1,k2⟩
   ·rw[k2]
    exact .inl ⟨hpar.1,hpar.1⟩
   ·rcases List.mem_append.1 hv with h|h
    ·rw[k2]
     exact .inr ⟨v,h,e1,fun h=>h,fun h=>h,fun h=>h⟩
    ·obtain rfl:=List.mem_singleton.1 h
     exact absurd eR.symm k1
  have S2:aB ((D.dm x y).kw (D.gz x y)):=S1.mark _ (fun _=>rfl) (fun _=>rfl) (fun _=>rfl)
  exact h1.trans (dA.more S2 _)
 ·rw[if_neg hE]
  exact dA.refl D
theorem dA.put(S:aB D)(hf:D.find r=some t)(hd:t.mr.dead=false)(i:Nat)(x y:Int):dA D (D.put r i x y):=by
 have h1:aB (D.fV r i x)∧dA D (D.fV r i x):=by
  unfold Wd.fV
  by_cases hx0:x=0
  ·rw[if_pos hx0]
   exact⟨S.ai hf i (fun h=>by rw[hd] at h;cases h),dA.ai S hf i x⟩
  ·rw[if_neg hx0]
   obtain⟨m,hf1,hm1⟩:=gu r hf x
   have S1:=S.more x
   exact⟨S1.ai hf1 i (fun h=>by have h:m.dead=true:=h;rw[hm1,hd] at h;cases h),(dA.more S x).trans (dA.ai S1 hf1 i x)⟩
 unfold Wd.put Wd.qf
 split
 ·exact(h1.2.trans (dA.touch h1.1 y)).trans (dA.less (h1.1.touch y) y)
 ·exact h1.2
theorem GJ.Hu(A:GJ D)(h:dA D D'):GJ D':=fun u hu=>by
 rw[h.par]
 rcases h.mem u hu with⟨_,k⟩|⟨v,hv,_,_,_,k⟩
 ·exact k
 ·exact k (A v hv)
theorem VH.Hu(V:VH hold D)(h:dA D D')(hc:D'.aa=D.aa)(hh:∀b,hold' b≤hold b):VH hold' D':=fun u hu h1 h2 h3=>by
 rw[h.par]
 rw[hc] at h3
 rcases h.mem u hu with⟨k,_⟩|⟨v,hv,e1,e2,e3,_⟩
 ·exact k
 ·rw[e1] at h2 h3
  exact e3 (V v hv (e2 h1) (Nat.lt_of_lt_of_le h2 (hh _)) h3)
theorem VH.more(V:VH hold D)(S:aB D)(hp:D.phase≠0)(hh:∀h:Nat,hold' h=hold h+if(h:Int)+1=r then 1 else 0):VH hold' (D.more r):=fun u hu h1 h2 h3=>by
 by_cases e:(u.h:Int)+1=r
 ·exact(touched (D:=D.up r) (S.up r) hp u hu e h1).trans (gM (D:=D) r).1.symm
 ·have h:=dA.more S r
  rw[h.par]
  rw[(gM (D:=D) r).2.1] at h3
  rw[hh,if_neg e] at h2
  rcases h.mem u hu with⟨k,_⟩|⟨v,hv,e1,e2,e3,_⟩
  ·exact k
  ·rw[e1] at h2 h3
   exact e3 (V v hv (e2 h1) h2 h3)
theorem VH.born{N:Nat}(V:VH hold D)(S:aB D)(B:jN D x y N)(hE:D.nZ x y=0)(hp:D.phase≠0)(hh:∀h:Nat,hold' h=hold h+if h=D.nu then 1 else 0):VH hold' (D.born x y):=fun u hu h1 h2 h3=>by
 have h:=dA.born S B
 rw[h.par]
 rw[lX.2.1] at h3
 rcases h.mem u hu with⟨k,_⟩|⟨v,hv,e1,e2,e3,_⟩
 ·exact k
 ·have hne:=B.fresh hE v hv
  rw[hh,if_neg (by omega)] at h2
  rw[e1] at h2 h3
  exact e3 (V v hv (e2 h1) h2 h3)
theorem fK.aa(H:fK E D)(A:GJ D)(k:Int):fK E {D with aa:=k}:=by
 refine⟨fun s hs h1 h2 h3=> ?_,fun s hs _=>A s hs⟩
 have e:ay (({D with aa:=k}:Wd).ph ((s.h:Int)+1)) D.ts=ay (D.ph ((s.h:Int)+1)) D.ts:=fZ (fun u hu=>by
  show lm D.parity k D.field _ u=lm D.parity D.aa D.field _ u
  unfold lm qR
  rw[if_pos (A u hu),if_pos (A u hu)])
 show sv D.parity s.mr=((ay (({D with aa:=k}:Wd).ph ((s.h:Int)+1)) D.ts:Nat):Int)
 rw[e]
 exact H.sh s hs h1 h2 h3
theorem fK.settle(H:fK E D)(S:aB D)(r:Int):fK E (D.settle r):=by
 unfold Wd.settle
 cases hf:D.find r with
 |none=>rw[bW _ hf];exact H
 |some t=>
  obtain⟨htl,er⟩:=ae hf
  refine H.upd (E':=E) (g:=fun u=>{u with mr:={u.mr with shade:=D.parity,shadow:=D.eU r}}) S hf rfl ⟨rfl,rfl,rfl,rfl⟩ (aQ hf).2.1 rfl (fun q _ _=>qE rfl) (fun h=>h) (fun h1 h2 h3=>⟨h1,h2,h3,?_⟩) (fun _ h=>h)
  have:=EU S htl
  rw[er] at this
  unfold sv at this ⊢
  rw[if_pos rfl]
  exact this
theorem fK.dH(H:fK E D)(S:aB D)(r:Int)(o:Option Th):fK E (D.dH r o):=by
 unfold Wd.dH
 split
 ·exact H
 ·split
  ·exact H
  ·split
   ·exact(H.settle S r).touch (S.settle r) r
   ·exact H.settle S r
theorem dA.settle(S:aB D)(r:Int):dA D (D.settle r):=dA.mark S r (f:=fun m=>{m with shade:=D.parity,shadow:=D.eU r}) (fun _ h=>h) (fun _ h=>h) (fun _ h=>h)
theorem dA.dH(S:aB D)(r:Int)(o:Option Th):dA D (D.dH r o):=by
 unfold Wd.dH
 split
 ·exact dA.refl D
 ·split
  ·exact dA.refl D
  ·split
   ·exact(dA.settle S r).trans (dA.touch (S.settle r) r)
   ·exact dA.settle S r
theorem tJ(r:Int)(o:Option Th):mO D (D.dH r o):=by
 unfold Wd.dH
 split
 ·exact mO.refl D
 ·split
  ·exact mO.refl D
  ·split
   ·exact mO.trans (D':=D.settle r) ⟨rfl,rfl,rfl,rfl⟩ (fG r)
   ·exact⟨rfl,rfl,rfl,rfl⟩
structure FL (hold:Nat→Nat) (D:Wd):Prop where
 ho:fK (fun _=>False) D
 tri:iR D
 al:GJ D
 vh:VH hold D
 sf:0≤D.scanF
theorem FL.flood(F:FL hold D)(S:aB D)(N:gB hold D)(hk:0≤D.aa):FL hold D.flood:=by
 have ht:=F.tri.flood S F.sf
 unfold Wd.flood at ht ⊢
 cases hb:D.bO with
 |false=>rw[if_neg (by decide)];exact F
 |true=>
  rw[hb,if_pos rfl] at ht
  rw[if_pos rfl]
  have hp:D.phase=2:=by
   unfold Wd.bO at hb
   simp at hb
   exact hb.1
  by_cases hs:D.scan=0
  ·rw[if_pos hs] at ht ⊢
   cases hr:D.ring with
   |cons b rest=>
    rw[hr] at ht
    exact⟨F.ho.same rfl ⟨rfl,rfl,rfl,rfl⟩,ht,F.al,F.vh,by show(0:Int)≤0;decide⟩
   |nil=>
    rw[hr] at ht
    have hA:=F.al.Hu (dA.dH S (D.aa+1) (D.find (D.aa+1)))
    have hH:=(F.ho.dH S (D.aa+1) (D.find (D.aa+1))).aa hA (D.aa+1)
    refine⟨hH,ht,hA,?_,(dA.dH S _ _).sf F.sf⟩
    intro u hu h1 h2 h3
    have h3:(u.h:Int)<D.aa+1:=h3
    have hu:u∈(D.dH (D.aa+1) (D.find (D.aa+1))).live:=hu
    show u.mr.color=(D.dH (D.aa+1) (D.find (D.aa+1))).parity
    rw[(dA.dH S (D.aa+1) (D.find (D.aa+1))).par]
    by_cases e:(u.h:Int)=D.aa
    ·cases hf:D.find (D.aa+1) with
     |none=>
      exfalso
      rw[hf] at hu
      have hu:u∈D.live:=hu
      have:=S.bE hu
      rw[e,hf] at this
      cases this
     |some t=>
      obtain⟨htl,er⟩:=ae hf
      rw[hf] at hu
      unfold Wd.dH at hu
      simp only at hu
      by_cases hd:t.mr.dead=true
      ·exfalso
       rw[if_pos hd] at hu
       have e9:u=t:=S.uj htl hu (by omega)
       rw[←e9,h1] at hd
       cases hd
      ·rw[if_neg hd] at hu
       have hsum:ay (D.ph ((t.h:Int)+1)) D.ts=ay (ik ((t.h:Int)+1)) D.ts:=fZ (fun v hv=>by
        show lm D.parity D.aa D.field _ v=_
        unfold lm qR ik
        rw[if_pos (F.al v hv),List.take_length])
       have hcnt:=N.cnt t htl
       have hut:u.h=t.h:=by omega
       rw[hut] at h2
       by_cases hcl:t.mr.color=D.parity
       ·have h9:=(dA.dH S (D.aa+1) (some t)).mem u (by unfold Wd.dH;simp only;rw[if_neg hd];exact hu)
        rcases h9 with⟨k,_⟩|⟨v,hv,e1,_,e3,_⟩
        ·exact k
        ·exact e3 (by rw[S.uj htl hv (by omega)];exact hcl)
       ·have hsv:=F.ho.sh t htl (fun h=>h) (by cases h:t.mr.dead;rfl;exact absurd h hd) hcl
        have hsh:=EU S htl
        rw[er] at hsh
        have hlt:D.eU (D.aa+1)<t.mr.refs:=by
         rw[hsh,hsv,hsum,hcnt]
         omega
        rw[if_pos hlt] at hu
        have h9:=touched (D:=D.settle (D.aa+1)) (S.settle _) (by show D.phase≠0;omega) u hu (by omega) h1
        exact h9
    ·rcases (dA.dH S (D.aa+1) (D.find (D.aa+1))).mem u hu with⟨k,_⟩|⟨v,hv,e1,e2,e3,_⟩
     ·exact k
     ·exact e3 (F.vh v hv (e2 h1) (by rw[←e1];exact h2) (by omega))
  ·rw[if_neg hs] at ht ⊢
   unfold Wd.nE at ht ⊢
   cases hf:D.find D.scan with
   |none=>
    rw[hf] at ht
    simp only at ht ⊢
    exact⟨F.ho.same rfl ⟨rfl,rfl,rfl,rfl⟩,ht,F.al,F.vh,F.sf⟩
   |some t=>
    rw[hf] at ht
    simp only at ht ⊢
    by_cases hff:D.scanF<(t.pt.length:Int)
    ·rw[if_pos hff] at ht ⊢
     have hw:=dA.touch S (nth t.pt D.scanF.toNat)
     exact⟨(F.ho.touch S _).same rfl ⟨rfl,rfl,rfl,rfl⟩,ht,(show GJ (D.touch (nth t.pt D.scanF.toNat)) from F.al.Hu hw),VH.Hu (D':={D.touch (nth t.pt D.scanF.toNat) with scanF:=D.scanF+1}) (F.vh.Hu hw (fG _).2.1 (fun _=>Nat.le_refl _)) ⟨rfl,fun h=>h,fun h=>by show 0≤D.scanF+1;have:=F.sf;omega,fun s hs=>.inr ⟨s,hs,rfl,fun h=>h,fun h=>h,fun h=>h⟩⟩ rfl (fun _=>Nat.le_refl _),by show 0≤D.scanF+1;have:=F.sf;omega⟩
    ·rw[if_neg hff] at ht ⊢
     exact⟨F.ho.same rfl ⟨rfl,rfl,rfl,rfl⟩,ht,F.al,F.vh,F.sf⟩
theorem BN:D.flood.phase=D.phase∧D.flood.parity=D.parity∧D.flood.field=D.field:=by
 unfold Wd.flood
 split
 ·split
  ·split
   ·exact⟨rfl,rfl,rfl⟩
   ·exact⟨(tJ _ _).2.2.2,(tJ _ _).1,(tJ _ _).2.2.1⟩
  ·unfold Wd.nE
   split
   ·exact⟨rfl,rfl,rfl⟩
   ·split
    ·exact⟨(fG _).2.2.2,(fG _).1,(fG _).2.2.1⟩
    ·exact⟨rfl,rfl,rfl⟩
 ·exact⟨rfl,rfl,rfl⟩
def jS(D:Wd):Prop:=bK D∧∀t,t∈D.ts→t.mr.color=0
inductive FM (hold:Nat→Nat) (D:Wd):Prop where
 |idle:D.phase=0→jS D→FM hold D
 |cnt:D.phase=1→fK (fun _=>False) D→iR D→D.scan=0→FM hold D
 |fl:D.phase=2→FL hold D→FM hold D
theorem FL.Hu(F:FL hold D)(h1:fK (fun _=>False) D')(h2:iR D')(h:dA D D')(hc:D'.aa=D.aa)(hh:∀b,hold' b≤hold b):FL hold' D':=⟨h1,h2,F.al.Hu h,F.vh.Hu h hc hh,h.sf F.sf⟩
theorem jS.touch(h:jS D)(r:Int):jS (D.touch r):=by
 refine⟨h.1.touch r,?_⟩
 rcases jk (D:=D) r with k|k
 ·rw[k]
  exact h.2
 ·rw[k]
  exact qM (P:=fun t=>t.mr.color=0) (g:=fun t=>{t with mr:={t.mr with color:=D.parity}}) (fun t _=>h.1.1) r h.2
theorem jS.upd(h:jS D)(hd:bK D')(k:D'.ts=bL r g D.ts)(hg:∀t,(g t).mr.color=t.mr.color):jS D':=⟨hd,by rw[k];exact qM (P:=fun t=>t.mr.color=0) (fun t ht=>by rw[hg];exact ht) r h.2⟩
theorem jS.aY(h:jS D)(x:Int):jS (D.aY x):=by
 have hd:=h.1.aY x
 unfold Wd.aY at hd ⊢
 split
 ·exact h
 ·rename_i t hf
  rw[hf] at hd
  simp only at hd
  split
  ·exact h
  ·rename_i hn
   rw[if_neg hn] at hd
   exact h.upd (g:=fun s=>{s with mr:={s.mr with dead:=true,left:=(t.pt.length:Int),leaves:=(t.lv.length:Int)}}) hd (jb x _) (fun _=>rfl)
theorem jS.inter(h:jS D)(x:Int):jS (D.inter x):=by
 unfold Wd.inter
 split
 ·exact h.aY x
 ·exact h
theorem jS.up(h:jS D)(x:Int):jS (D.up x):=h.upd (r:=x) (g:=fun t=>{t with mr:={t.mr with refs:=t.mr.refs+1}}) (h.1.mark x (f:=fun m=>{m with refs:=m.refs+1}) (fun m hm=>hm)) rfl (fun _=>rfl)
theorem jS.down(h:jS D)(x:Int):jS (D.down x):=h.upd (r:=x) (g:=fun t=>{t with mr:={t.mr with refs:=t.mr.refs-1}}) (h.1.mark x (f:=fun m=>{m with refs:=m.refs-1}) (fun m hm=>hm)) rfl (fun _=>rfl)
theorem jS.more(h:jS D)(x:Int):jS (D.more x):=(h.up x).touch x
theorem jS.less(h:jS D)(x:Int):jS (D.less x):=jS.inter (D:=(D.down x).qJ) ⟨(h.down x).1.same rfl rfl,(h.down x).2⟩ x
theorem jS.ai(h:jS D)(r:Int)(i:Nat)(x:Int):jS (D.ai r i x):=h.upd (g:=fun t=>{t with pt:=t.pt.set i x}) (h.1.ai r i x) rfl (fun _=>rfl)
theorem jS.put(h:jS D)(r:Int)(i:Nat)(x y:Int):jS (D.put r i x y):=by
 have h1:jS (D.fV r i x):=by
  unfold Wd.fV
  split
  ·exact h.ai r i x
  ·exact(h.more x).ai r i x
 unfold Wd.put Wd.qf
 split
 ·exact(h1.touch y).less y
 ·exact h1
theorem jS.dm(h:jS D)(x y:Int):jS (D.dm x y):=by
 refine⟨h.1.dm x y,?_⟩
 unfold Wd.dm
 by_cases hE:D.nZ x y=0
 ·rw[if_pos hE]
  intro t ht
  rcases List.mem_append.1 (show t∈D.ts++[_] from ht) with ht|ht
  ·exact h.2 t ht
  ·obtain rfl:=List.mem_singleton.1 ht
   rfl
 ·rw[if_neg hE]
  exact h.2
theorem jS.kw(h:jS D)(r:Int):jS (D.kw r):=⟨h.1.kw r,qM (P:=fun t=>t.mr.color=0) (g:=fun t=>{t with mr:={t.mr with color:=D.parity,count:=D.parity,shade:=D.parity,shadow:=0}}) (fun t _=>h.1.1) r h.2⟩
theorem jS.born(h:jS D)(x y:Int):jS (D.born x y):=by
 unfold Wd.born
 split
 ·exact((h.dm x y).kw _).more _
 ·exact h
theorem jS.drain(h:jS D)(r:Int)(i:Nat)(x:Int):jS (D.drain r i x):=by
 have key:∀D2:Wd,jS D2→jS ((D2.down x).inter x):=fun D2 h=>(h.down x).inter x
 unfold Wd.drain
 by_cases hc:(D.ai r i 0).cnt x=0
 ·rw[if_pos hc]
  exact h.ai r i 0
 ·rw[if_neg hc]
  refine key _ ?_
  split
  ·unfold Wd.av
   split
   ·exact(h.ai r i 0).upd (r:=x) (g:=fun t=>{t with mr:={t.mr with shadow:=t.mr.shadow-1}}) ((h.ai r i 0).1.mark x (f:=fun m=>{m with shadow:=m.shadow-1}) (fun m hm=>hm)) rfl (fun _=>rfl)
   ·exact h.ai r i 0
  ·exact h.ai r i 0
theorem jS.step(h:jS D):jS D.step:=by
 have hd:=h.1.step
 unfold Wd.step at hd ⊢
 split
 ·exact h
 ·rename_i q rest hg
  rw[hg] at hd
  simp only at hd
  split
  ·exact h
  ·rename_i t hf
   rw[hf] at hd
   simp only at hd
   unfold Wd.work at hd ⊢
   split
   ·rename_i ha
    rw[if_pos ha] at hd
    exact(h.drain _ _ _).upd (g:=fun u=>{u with mr:={u.mr with left:=t.mr.left-1}}) hd rfl (fun _=>rfl)
   ·rename_i ha
    rw[if_neg ha] at hd
    split
    ·rename_i hl
     rw[if_pos hl] at hd
     exact h.upd hd (gH _ _ _ _) (fun _=>rfl)
    ·rename_i hl
     rw[if_neg hl] at hd
     exact h.upd (g:=fun s=>{s with ended:=true}) hd rfl (fun _=>rfl)
theorem FM.less(T:FM hold D)(S:aB D)(r:Int)(hh:∀b,hold' b≤hold b):FM hold' (D.less r):=by
 rcases T with⟨h,k⟩|⟨h,k,k2,k3⟩|⟨h,F⟩
 ·exact .idle ((kL r).2.2.2.trans h) (k.less r)
 ·exact .cnt ((kL r).2.2.2.trans h) (k.less S r) (k2.less S r) ((dA.less S r).sc k3)
 ·exact .fl ((kL r).2.2.2.trans h) (F.Hu (F.ho.less S r) (F.tri.less S r) (dA.less S r) (kL r).2.1 hh)
theorem FM.more(T:FM hold D)(S:aB D)(hh:∀h:Nat,hold' h=hold h+if(h:Int)+1=r then 1 else 0):FM hold' (D.more r):=by
 rcases T with⟨h,k⟩|⟨h,k,k2,k3⟩|⟨h,F⟩
 ·exact .idle ((gM r).2.2.2.trans h) (k.more r)
 ·exact .cnt ((gM r).2.2.2.trans h) (k.more S r) (k2.more S r) ((dA.more S r).sc k3)
 ·exact .fl ((gM r).2.2.2.trans h) ⟨F.ho.more S r,F.tri.more S r,F.al.Hu (dA.more S r),F.vh.more S (by omega) hh,(dA.more S r).sf F.sf⟩
theorem FM.put(T:FM hold D)(S:aB D)(N:gB hold D)(hf:D.find r=some t)(hd:t.mr.dead=false){i:Nat}(hi:i<t.pt.length):FM hold (D.put r i x (nth t.pt i)):=by
 rcases T with⟨h,k⟩|⟨h,k,k2,k3⟩|⟨h,F⟩
 ·exact .idle ((pU _ _ _ _).2.2.2.trans h) (k.put _ _ _ _)
 ·exact .cnt ((pU _ _ _ _).2.2.2.trans h) (k.put S N (by omega) hf hd hi) (k2.put S (by omega) hf hd hi) ((dA.put S hf hd i x _).sc k3)
 ·exact .fl ((pU _ _ _ _).2.2.2.trans h) (F.Hu (F.ho.put S N (by omega) hf hd hi) (F.tri.put S (by omega) hf hd hi) (dA.put S hf hd i x _) (pU _ _ _ _).2.1 (fun _=>Nat.le_refl _))
theorem FM.born{N:Nat}(T:FM hold D)(S:aB D)(B:jN D x y N)(hE:D.nZ x y=0)(hh:∀h:Nat,hold' h=hold h+if h=D.nu then 1 else 0):FM hold' (D.born x y):=by
 rcases T with⟨h,k⟩|⟨h,k,k2,k3⟩|⟨h,F⟩
 ·exact .idle (lX.2.2.2.trans h) (k.born x y)
 ·exact .cnt (lX.2.2.2.trans h) (k.born S B) (k2.born S B) ((dA.born S B).sc k3)
 ·exact .fl (lX.2.2.2.trans h) ⟨F.ho.born S B,F.tri.born S B,F.al.Hu (dA.born S B),F.vh.born S B hE (by omega) hh,(dA.born S B).sf F.sf⟩
theorem FM.step(T:FM hold D)(S:aB D)(N:gB hold D)(hF:0≤D.field):FM hold D.step:=by
 rcases T with⟨h,k⟩|⟨h,k,k2,k3⟩|⟨h,F⟩
 ·exact .idle (mF.2.2.2.trans h) k.step
 ·exact .cnt (mF.2.2.2.trans h) (k.step S N (.inl h) hF) (k2.step S) ((dA.step S).sc k3)
 ·exact .fl (mF.2.2.2.trans h) (F.Hu (F.ho.step S N (.inr ⟨h,F.al⟩) hF) (F.tri.step S) (dA.step S) mF.2.1 (fun _=>Nat.le_refl _))
theorem EZ:D.tally.scan=D.scan:=by
 unfold Wd.tally
 split
 ·unfold Wd.iF
  split
  ·rfl
  ·split
   ·rfl
   ·split<;>rfl
 ·rfl
theorem FM.tally(T:FM hold D)(S:aB D)(hF:0≤D.field):FM hold D.tally:=by
 rcases T with⟨h,k⟩|⟨h,k,k2,k3⟩|⟨h,F⟩
 ·rw[nK (xx (by omega))]
  exact .idle h k
 ·exact .cnt (uY.1.trans h) (k.tally S hF) (k2.tally S) (EZ.trans k3)
 ·rw[nK (xx (by omega))]
  exact .fl h F
theorem jw(h:D.bO=false):D.flood=D:=by unfold Wd.flood;rw[h];rfl
theorem rq(h:D.phase≠2):D.bO=false:=by unfold Wd.bO;rw[decide_eq_false h];rfl
theorem FM.flood(T:FM hold D)(S:aB D)(N:gB hold D)(hk:0≤D.aa):FM hold D.flood:=by
 rcases T with⟨h,k⟩|⟨h,k,k2,k3⟩|⟨h,F⟩
 ·rw[jw (rq (by omega))]
  exact .idle h k
 ·rw[jw (rq (by omega))]
  exact .cnt h k k2 k3
 ·exact .fl (BN.1.trans h) (F.flood S N hk)
end
section
variable {c:Cf} {zs:List Int} {D:Wd} {t:Th} {r:Int}
theorem Ik(hf:D.find r=some t):Does c D 115 [.int .i64 r] 4 (D.settle r) (.tuple #[]):=fun zs hz R=>by
 obtain⟨h1,h2,h3,h4,h5⟩:=R.gy hf
 obtain⟨htl,er⟩:=ae hf
 have hlt:=R.hlt htl
 have hwf:=hz.wf (adr c t.h 0)
 have C1:Run c 84 [] zs 1 zs (.int .i64 D.parity):=fun p m w hG=>bG hG _ (R.reg 10 (by omega) (by omega))
 subst er
 by_cases hs:t.mr.shade=D.parity
 ·rw[IM hf hs]
  exact⟨zs,⟨2,by omega,wo hlt hz.may rfl hwf.1 hwf.2 (by rw[h5.cS];exact hs) C1⟩,R⟩
 ·have ok:=nz h1 h2 (bT (nth zs (adr c t.h 0))).1 (bT (nth zs (adr c t.h 0))).2.1 (show 1-uS (nth zs (adr c t.h 0))=0∨1-uS (nth zs (adr c t.h 0))=1 by have:=(bT (nth zs (adr c t.h 0))).2.2.1;omega) (bT (nth zs (adr c t.h 0))).2.2.2
  obtain⟨_,_,_,_,_,_,_,y0,y1⟩:=ok
  exact⟨_,⟨4,by omega,xQ hlt hz.may rfl hwf.1 hwf.2 (by rw[h5.cS];exact hs) (NL h1 h2) y0 y1 C1⟩,IV R hz hf hs⟩
theorem Er(h:D.scan=0):Does c D 57 [] 1 D (.bool false):=fun zs hz R=>
 ⟨zs,⟨1,by omega,Ef ((R.reg 14 (by omega) (by omega)).trans h)⟩,R⟩
theorem MI(S:aB D)(h:D.scan≠0):Does c D 57 [] 44 (D.nE (D.find D.scan)) (.bool true):=fun zs hz R=>by
 have h14:nth zs 14=D.scan:=R.reg 14 (by omega) (by omega)
 have h15:nth zs 15=D.scanF:=R.reg 15 (by omega) (by omega)
 obtain⟨⟨s0,s1⟩,f0,f1⟩:=R.scans hz
 have h64:In64 D.scan:=by constructor<;>omega
 have hob:=iV R D.scan
 cases hf:D.find D.scan with
 |none=>
  rw[hf] at hob
  obtain⟨d1,hd1,C1⟩:=kQ.rC c zs D.clean D.bU D.scan hz R.heap h64 hob
  exact⟨_,⟨1+1+d1+1,by omega,uA h14 h h15 f0 C1⟩,R.Al hz 0⟩
 |some t=>
  rw[hf] at hob
  obtain⟨d1,hd1,C1⟩:=kQ.jd c zs D.clean D.bU D.scan t.ob hz R.heap hob
  unfold Wd.nE
  simp only
  by_cases hff:D.scanF<(t.pt.length:Int)
  ·rw[if_pos hff]
   obtain⟨j,hj⟩:=Int.eq_ofNat_of_zero_le f0
   have hjl:j<t.pt.length:=by omega
   have hjn:D.scanF.toNat=j:=by omega
   have hsz:=(R.QH hz.may S (ae hf).1).small
   obtain⟨x64,e,d2,hd2,C2⟩:=FQ S hz R hf hjl
   obtain⟨zs3,⟨d3,hd3,C3⟩,R3,hz3⟩:=(bS.touch c D (nth t.pt j) x64).at hz R
   rw[hjn]
   rw[hj] at h15 ⊢
   exact⟨_,⟨1+1+d1+d2+d3+1,by omega,Ml h14 h h15 (by omega) (by omega) (show(j:Int)<(t.ob.np:Int) by show(j:Int)<(t.pt.length:Int);omega) C1 C2 C3⟩,R3.CP hz3 _⟩
  ·rw[if_neg hff]
   exact⟨_,⟨1+1+d1+1,by omega,uA h14 h h15 (show(t.ob.np:Int)≤D.scanF by show(t.pt.length:Int)≤D.scanF;omega) C1⟩,R.Al hz 0⟩
theorem zS(h:D.ring=[]):Does c D 58 [] 26 D (.bool false):=fun zs hz R=>by
 have hr:=R.ring
 rw[h] at hr
 obtain⟨d1,hd1,C1⟩:=Gs.take_no c zs hz hr
 exact⟨zs,⟨d1,by omega,zI C1⟩,R⟩
theorem Ii{b:Nat}{rest:List Nat}(h:D.ring=b::rest):Does c D 58 [] 26 {D with ring:=rest,scan:=(b:Int)+1,scanF:=0} (.bool true):=fun zs hz R=>by
 have hr:=R.ring
 rw[h] at hr
 have A:=Gs.take_yes c zs rest b hz hr
 have hz1:=A.wz hz
 obtain⟨d1,hd1,C1⟩:=A
 have hb:b<c.N:=hr.lt b (List.mem_cons_self ..)
 have hmn:=hz.may.n
 have R1:=Di R hz h
 have R2:=R1.Al hz1 ((b:Int)+1)
 have R3:=R2.CP (hz1.set 14 (by omega) (by omega)) 0
 exact⟨_,⟨d1+1+1,by omega,Hm (by omega) C1⟩,R3⟩
theorem KG{D':Wd}(h:D'.field=D.field)(k:Int):D'.move k D.field={D' with aa:=k}:=by
 unfold Wd.move
 rw[←h]
theorem MH(S:aB D)(h:D.aa<(D.n:Int)):Does c D 59 [] 42 D.Ev (.bool true):=fun zs hz R=>by
 have hm:=hz.may
 have hmn:=hm.n
 have hN:=R.n
 obtain⟨⟨k0,k1⟩,f0,f1⟩:=R.Mi hz
 have hk':D.aa<(c.N:Int):=by rw[←hN];exact h
 have hr:In64 (D.aa+1):=by constructor<;>omega
 obtain⟨zs1,⟨d1,hd1,C1⟩,R1,hz1⟩:=(bS.at_ c D).at hz R
 obtain⟨zs2,⟨d2,hd2,C2⟩,R2,hz2⟩:=(Kk (c:=c) (D:=D) hr).at hz1 R1
 have hfin:∀D':Wd,D'.field=D.field→Does c D' 46 [.int .i64 (D.aa+1),.int .i64 D.field] 2 {D' with aa:=D.aa+1} (.bool true):=fun D' hD=>by
  have:=rA (c:=c) (D:=D') (x:=D.aa+1) (y:=D.field) (by omega) (by omega) f0 f1
  rwa[KG hD] at this
 unfold Wd.Ev
 cases hf:D.find (D.aa+1) with
 |none=>
  rw[hf] at C2
  obtain⟨zs3,⟨d3,hd3,C3⟩,R3,hz3⟩:=(hfin D rfl).at hz2 R2
  exact⟨zs3,⟨d1+d2+d3,by omega,zK k0 hk' hm C1 C2 C3⟩,R3⟩
 |some t=>
  rw[hf] at C2
  obtain⟨zs3,⟨d3,hd3,C3⟩,R3,hz3⟩:=(bS.dead c D (D.aa+1) hr).at hz2 R2
  have hdd:D.dead (D.aa+1)=t.mr.dead:=by unfold Wd.dead;rw[hf]
  rw[hdd] at C3
  unfold Wd.dH
  simp only
  by_cases hd:t.mr.dead=true
  ·rw[hd] at C3
   rw[if_pos hd]
   obtain⟨zs4,⟨d4,hd4,C4⟩,R4,hz4⟩:=(hfin D rfl).at hz3 R3
   exact⟨zs4,⟨d1+d2+d3+d4,by omega,zJ k0 hk' hm C1 C2 C3 C4⟩,R4⟩
  ·have hdf:t.mr.dead=false:=by cases h:t.mr.dead;rfl;exact absurd h hd
   rw[hdf] at C3
   rw[if_neg hd]
   obtain⟨zs4,⟨d4,hd4,C4⟩,R4,hz4⟩:=(Ik (c:=c) hf).at hz3 R3
   obtain⟨zs5,⟨d5,hd5,C5⟩,R5,hz5⟩:=(Kh (c:=c) (D:=D.settle (D.aa+1)) hr).at hz4 R4
   obtain⟨zs6,⟨d6,hd6,C6⟩,R6,hz6⟩:=(bS.shadow c (D.settle (D.aa+1)) (D.aa+1) hr).at hz5 R5
   rw[ER hf] at C5
   rw[ES hf] at C6
   by_cases hlt:D.eU (D.aa+1)<t.mr.refs
   ·rw[if_pos hlt]
    obtain⟨zs7,⟨d7,hd7,C7⟩,R7,hz7⟩:=(bS.touch c (D.settle (D.aa+1)) (D.aa+1) hr).at hz6 R6
    obtain⟨zs8,⟨d8,hd8,C8⟩,R8,hz8⟩:=(hfin ((D.settle (D.aa+1)).touch (D.aa+1)) (fG (D:=D.settle (D.aa+1)) _).2.2.1).at hz7 R7
    exact⟨zs8,⟨d1+d2+d3+d4+d5+d6+d7+d8,by omega,Ee k0 hk' hm hlt C1 C2 C3 C4 C5 C6 C7 C8⟩,R8⟩
   ·rw[if_neg hlt]
    obtain⟨zs7,⟨d7,hd7,C7⟩,R7,hz7⟩:=(hfin (D.settle (D.aa+1)) rfl).at hz6 R6
    exact⟨zs7,⟨d1+d2+d3+d4+d5+d6+d7,by omega,BK k0 hk' hm (by omega) C1 C2 C3 C4 C5 C6 C7⟩,R7⟩
theorem Ep(h:¬D.aa<(D.n:Int)):Does c D 59 [] 42 D (.bool false):=fun zs hz R=>by
 have hN:=R.n
 obtain⟨zs1,⟨d1,hd1,C1⟩,R1,hz1⟩:=(bS.at_ c D).at hz R
 exact⟨zs1,⟨d1,by omega,BJ (by rw[←hN];omega) C1⟩,R1⟩
theorem wO(S:aB D):Does c D 14 [] 96 D.flood (.bool D.bO):=fun zs hz R=>by
 obtain⟨zs1,⟨d1,hd1,C1⟩,R1,hz1⟩:=(bS.phase c D).at hz R
 by_cases hp:D.phase=2
 ·rw[hp] at C1
  by_cases hs:D.scan=0
  ·obtain⟨zs2,⟨d2,hd2,C2⟩,R2,hz2⟩:=(Er (c:=c) hs).at hz1 R1
   cases hr:D.ring with
   |cons b rest=>
    have e:D.bO=true:=by unfold Wd.bO;simp[hp,hr]
    obtain⟨zs3,⟨d3,hd3,C3⟩,R3,hz3⟩:=(Ii (c:=c) hr).at hz2 R2
    unfold Wd.flood
    rw[e,if_pos rfl,if_pos hs,hr]
    exact⟨zs3,⟨d1+d2+d3,by omega,wm C1 C2 C3⟩,R3⟩
   |nil=>
    obtain⟨zs3,⟨d3,hd3,C3⟩,R3,hz3⟩:=(zS (c:=c) hr).at hz2 R2
    by_cases hk:D.aa<(D.n:Int)
    ·have e:D.bO=true:=by unfold Wd.bO;simp[hp,hk]
     obtain⟨zs4,⟨d4,hd4,C4⟩,R4,hz4⟩:=(MH (c:=c) S hk).at hz3 R3
     unfold Wd.flood
     rw[e,if_pos rfl,if_pos hs,hr]
     exact⟨zs4,⟨d1+d2+d3+d4,by omega,qZ C1 C2 C3 C4⟩,R4⟩
    ·have e:D.bO=false:=by unfold Wd.bO;simp[hs,hr,hk]
     obtain⟨zs4,⟨d4,hd4,C4⟩,R4,hz4⟩:=(Ep (c:=c) hk).at hz3 R3
     rw[jw e,e]
     exact⟨zs4,⟨d1+d2+d3+d4,by omega,qZ C1 C2 C3 C4⟩,R4⟩
  ·have e:D.bO=true:=by unfold Wd.bO;simp[hp,hs]
   obtain⟨zs2,⟨d2,hd2,C2⟩,R2,hz2⟩:=(MI (c:=c) S hs).at hz1 R1
   unfold Wd.flood
   rw[e,if_pos rfl,if_neg hs]
   exact⟨zs2,⟨d1+d2,by omega,zH C1 C2⟩,R2⟩
 ·have e:=rq hp
  rw[jw e,e]
  exact⟨zs1,⟨d1,by omega,xP hp C1⟩,R1⟩
end
def nT:Option Th→Nat
 |none=>2
 |some t=>t.pt.length+2
def jM(F:Int):Option Th→Nat
 |none=>1
 |some t=>((t.pt.length:Int)-F).toNat+1
def whiteT(P:Int)(t:Th):Nat:=if t.mr.color=P then 0 else t.pt.length+2
def jg(D:Wd)(l:List Nat):Nat:=(l.map (fun b:Nat=>nT (D.find ((b:Int)+1)))).sum
def qd(D:Wd):Nat:=ay (whiteT D.parity) D.ts+jg D D.ring
def DU(D:Wd):Nat:=((D.n:Int)-D.aa).toNat+qd D+(if D.scan=0 then 0 else jM D.scanF (D.find D.scan))
section
variable {D D':Wd} {t u:Th} {r x:Int} {l:List Nat}
theorem xe(h:∀q,nT (D'.find q)=nT (D.find q)):∀l:List Nat,jg D' l=jg D l:=fun l=>by
 unfold jg
 congr 1
 exact List.map_congr_left (fun b _=>h _)
theorem wQ(r:Int)(f:bZ→bZ)(q:Int):nT ((D.mark r f).find q)=nT (D.find q):=by
 rw[eQ]
 cases D.find q with
 |none=>rfl
 |some t=>
  simp only[Option.map_some]
  split<;>rfl
theorem EA(r:Int)(f:bZ→bZ)(F q:Int):jM F ((D.mark r f).find q)=jM F (D.find q):=by
 rw[eQ]
 cases D.find q with
 |none=>rfl
 |some t=>
  simp only[Option.map_some]
  split<;>rfl
theorem Dn(r q:Int):nT ((D.touch r).find q)=nT (D.find q):=by
 unfold Wd.touch
 split
 ·exact wQ (D:=D) r (fun m=>{m with color:=D.parity}) q
 ·rfl
theorem Dp(r F q:Int):jM F ((D.touch r).find q)=jM F (D.find q):=by
 unfold Wd.touch
 split
 ·exact EA (D:=D) r (fun m=>{m with color:=D.parity}) F q
 ·rfl
theorem GA(S:aB D)(r:Int):qd (D.touch r)≤qd D:=by
 cases ht:D.dY r with
 |false=>
  have e:D.touch r=D:=by unfold Wd.touch;rw[ht];rfl
  rw[e]
  exact Nat.le_refl _
 |true=>
  cases hf:D.find r with
  |none=>unfold Wd.dY at ht;rw[hf] at ht;cases ht
  |some t=>
   obtain⟨htl,er⟩:=ae hf
   have hnb:t.mr.color≠D.parity:=by
    unfold Wd.dY at ht
    rw[hf] at ht
    simp at ht
    exact ht.2
   have e:D.touch r={D.gP r with ring:=if hasB (ints D.ring) (r-1) then D.ring else D.ring++[(r-1).toNat]}:=by unfold Wd.touch;rw[ht];rfl
   have h1:=gQ (φ:=whiteT D.parity) (g:=fun t=>{t with mr:={t.mr with color:=D.parity}}) hf (aQ hf).2.1
   have h2:whiteT D.parity {t with mr:={t.mr with color:=D.parity}}=0:=by unfold whiteT;rw[if_pos rfl]
   have h3:whiteT D.parity t=t.pt.length+2:=by unfold whiteT;rw[if_neg hnb]
   have h4:jg (D.touch r) (D.touch r).ring≤jg D D.ring+(t.pt.length+2):=by
    rw[xe (Dn r)]
    rw[e]
    show jg D (if hasB (ints D.ring) (r-1) then D.ring else D.ring++[(r-1).toNat])≤_
    split
    ·exact Nat.le_add_right _ _
    ·unfold jg
     rw[List.map_append,List.sum_append]
     have e2:(((r-1).toNat:Nat):Int)+1=r:=by omega
     simp only[List.map_cons,List.map_nil,List.sum_cons,List.sum_nil,e2,hf]
     exact Nat.le_refl _
   have h5:ay (whiteT (D.touch r).parity) (D.touch r).ts=ay (whiteT D.parity) (bL r (fun t=>{t with mr:={t.mr with color:=D.parity}}) D.ts):=by rw[e];rfl
   unfold qd
   rw[h5]
   omega
theorem CU(r:Int):qd (D.settle r)=qd D:=by
 unfold qd
 have h1:ay (whiteT (D.settle r).parity) (D.settle r).ts=ay (whiteT D.parity) D.ts:=dZ r (fun t=>rfl)
 have h2:jg (D.settle r) (D.settle r).ring=jg D D.ring:=xe (wQ r _) D.ring
 rw[h1,h2]
theorem OH(S:aB D)(r:Int)(o:Option Th):qd (D.dH r o)≤qd D:=by
 unfold Wd.dH
 split
 ·exact Nat.le_refl _
 ·split
  ·exact Nat.le_refl _
  ·split
   ·exact Nat.le_trans (GA (S.settle r) r) (Nat.le_of_eq (CU r))
   ·exact Nat.le_of_eq (CU r)
theorem Ew(r:Int)(o:Option Th):(D.dH r o).n=D.n∧(D.dH r o).scan=D.scan:=by
 unfold Wd.dH
 split
 ·exact⟨rfl,rfl⟩
 ·split
  ·exact⟨rfl,rfl⟩
  ·split
   ·unfold Wd.touch
    split<;>exact⟨rfl,rfl⟩
   ·exact⟨rfl,rfl⟩
theorem Dm(r:Int):(D.touch r).n=D.n∧(D.touch r).scan=D.scan∧(D.touch r).aa=D.aa:=by
 unfold Wd.touch
 split<;>exact⟨rfl,rfl,rfl⟩
theorem IC(S:aB D)(hF:0≤D.scanF)(hb:D.bO=true):DU D.flood+1≤DU D:=by
 unfold Wd.flood
 rw[hb,if_pos rfl]
 by_cases hs:D.scan=0
 ·rw[if_pos hs]
  cases hr:D.ring with
  |cons b rest=>
   show((D.n:Int)-D.aa).toNat+(ay (whiteT D.parity) D.ts+jg D rest)+(if(b:Int)+1=0 then 0 else jM 0 (D.find ((b:Int)+1)))+1≤((D.n:Int)-D.aa).toNat+(ay (whiteT D.parity) D.ts+jg D D.ring)+(if D.scan=0 then 0 else jM D.scanF (D.find D.scan))
   rw[if_neg (by omega),if_pos hs,hr]
   have h1:jg D (b::rest)=nT (D.find ((b:Int)+1))+jg D rest:=by unfold jg;simp
   rw[h1]
   cases D.find ((b:Int)+1) with
   |none=>simp only[nT,jM];omega
   |some t=>simp only[nT,jM];omega
  |nil=>
   have hk:D.aa<(D.n:Int):=by
    unfold Wd.bO at hb
    rw[hr] at hb
    simp[hs] at hb
    exact hb.2
   have h1:=OH S (D.aa+1) (D.find (D.aa+1))
   obtain⟨e1,e2⟩:=Ew (D:=D) (D.aa+1) (D.find (D.aa+1))
   show(((D.dH (D.aa+1) (D.find (D.aa+1))).n:Int)-(D.aa+1)).toNat+qd (D.dH (D.aa+1) (D.find (D.aa+1)))+(if(D.dH (D.aa+1) (D.find (D.aa+1))).scan=0 then 0 else _)+1≤((D.n:Int)-D.aa).toNat+qd D+(if D.scan=0 then 0 else jM D.scanF (D.find D.scan))
   rw[e1,e2,if_pos hs,if_pos hs]
   omega
 ·rw[if_neg hs]
  have hp:DU D=((D.n:Int)-D.aa).toNat+qd D+jM D.scanF (D.find D.scan):=by unfold DU;rw[if_neg hs]
  rw[hp]
  unfold Wd.nE
  cases hf:D.find D.scan with
  |none=>
   show((D.n:Int)-D.aa).toNat+qd D+(if(0:Int)=0 then 0 else _)+1≤_
   rw[if_pos rfl]
   exact Nat.le_refl _
  |some t=>
   simp only
   by_cases hff:D.scanF<(t.pt.length:Int)
   ·rw[if_pos hff]
    have h1:=GA S (nth t.pt D.scanF.toNat)
    obtain⟨e1,e2,e3⟩:=Dm (D:=D) (nth t.pt D.scanF.toNat)
    show(((D.touch (nth t.pt D.scanF.toNat)).n:Int)-(D.touch (nth t.pt D.scanF.toNat)).aa).toNat+qd (D.touch (nth t.pt D.scanF.toNat))+(if(D.touch (nth t.pt D.scanF.toNat)).scan=0 then 0 else jM (D.scanF+1) ((D.touch (nth t.pt D.scanF.toNat)).find (D.touch (nth t.pt D.scanF.toNat)).scan))+1≤_
    rw[e1,e2,e3,if_neg hs,Dp,hf]
    simp only[jM]
    omega
   ·rw[if_neg hff]
    show((D.n:Int)-D.aa).toNat+qd D+(if(0:Int)=0 then 0 else _)+1≤_
    rw[if_pos rfl]
    simp only[jM]
    omega
end
def aX:Nat→Wd→Wd
 |0,D=>D
 |n+1,D=>(aX n D).tally
def ek:Nat→Wd→Wd
 |0,D=>D
 |n+1,D=>(ek n D).flood
section
variable {w wr w':World} {p:Pl} {c:Cf} {k m n:Nat} {D D':Wd} {t u:Th}
theorem il.FI(h:il w p c D wr):0≤D.aa∧0≤D.field∧D.n=c.N∧0≤D.scanF:=by
 obtain⟨zs,m,hG,hR,_⟩:=h
 exact⟨(hR.Mi hG.wz).1.1,(hR.Mi hG.wz).2.1,hR.n,(hR.scans hG.wz).2.1⟩
def Aj(N:Nat)(D:Wd):Nat:=((N:Int)*100002+100001-(D.aa*100002+D.field)).toNat
theorem Np{N:Nat}(hN:D.n=N)(hc:0≤D.aa)(hf:0≤D.field)(hfl:D.field≤100000)(hs:∀t,t∈D.live→t.pt.length≤100000)(hb:D.dw=true):Aj N D.tally+1≤Aj N D∧D.tally.field≤100000:=by
 have hlt:D.aa<(N:Int):=by
  unfold Wd.dw at hb
  rw[hN] at hb
  simp at hb
  exact hb.2
 have key:D.tally.aa*100002+D.tally.field≥D.aa*100002+D.field+1∧D.tally.aa*100002+D.tally.field≤(N:Int)*100002+100000∧D.tally.field≤100000:=by
  unfold Wd.tally
  rw[hb,if_pos rfl]
  unfold Wd.iF
  have e1:(D.move (D.aa+1) 0).aa=D.aa+1∧(D.move (D.aa+1) 0).field=0:=⟨rfl,rfl⟩
  cases hfd:D.find (D.aa+1) with
  |none=>
   simp only
   rw[e1.1,e1.2]
   omega
  |some t=>
   have ht:=hs t (ae hfd).1
   simp only
   split
   ·rw[e1.1,e1.2]
    omega
   ·split
    ·show D.aa*100002+(D.field+1)≥_∧D.aa*100002+(D.field+1)≤_∧D.field+1≤100000
     omega
    ·show(D.aa+1)*100002+0≥_∧(D.aa+1)*100002+0≤_∧(0:Int)≤100000
     omega
 unfold Aj
 omega
theorem il.QQ(h:il w p c D wr)(S:aB D)(hN:c.N≤1000):DU D≤1000000000:=by
 have hcu:=h.FI
 have hsz:=h.sizes
 have htot:=h.total S
 have hri:=(h.sit S).lens.1
 have h1:ay (whiteT D.parity) D.ts≤100002*ay qD D.ts:=qI 100002 (fun t ht=>by
  have h2:=hsz t ht
  have h3:1≤qD t:=by unfold qD;split<;>omega
  unfold whiteT
  split<;>omega)
 have h2:∀l:List Nat,jg D l≤100002*l.length:=fun l=>by
  induction l with
  |nil=>exact Nat.le_refl _
  |cons b l ih=>
   have e:jg D (b::l)=nT (D.find ((b:Int)+1))+jg D l:=by unfold jg;simp
   have h3:nT (D.find ((b:Int)+1))≤100002:=by
    cases hf:D.find ((b:Int)+1) with
    |none=>exact(show 2≤100002 by decide)
    |some t=>
     have:=hsz t (ae hf).1
     show t.pt.length+2≤_
     omega
   rw[e,List.length_cons]
   omega
 have h3:=h2 D.ring
 have h4:(if D.scan=0 then 0 else jM D.scanF (D.find D.scan))≤100001:=by
  split
  ·omega
  ·cases hf:D.find D.scan with
   |none=>exact(show 1≤100001 by decide)
   |some t=>
    have:=hsz t (ae hf).1
    show((t.pt.length:Int)-D.scanF).toNat+1≤_
    omega
 have h5:((D.n:Int)-D.aa).toNat≤1000:=by omega
 unfold DU qd
 omega
end
def PY(w:World)(p:Pl)(c:Cf)(D1:Wd)(ws:World)(e:Ending)(w':World):Prop:=
 ∃m n:Nat,e=.returned (.int .i64 (n:Int))∧(∀j,j<m→(aX j D1).dw=true)∧(aX m D1).dw=false∧
  (∀j,j<n→(ek j ((aX m D1).begin 2)).bO=true)∧(ek n ((aX m D1).begin 2)).bO=false∧
  n+DU (ek n ((aX m D1).begin 2))≤DU ((aX m D1).begin 2)∧
  il w p c (ek n ((aX m D1).begin 2)) w'∧aB (ek n ((aX m D1).begin 2))∧Touch (inG p) ws w'
def RunT(w:World)(p:Pl)(c:Cf)(k:Nat)(D1:Wd)(ws:World)(m:Nat)(wx:World):Prop:=
 ∃i,il w p c (aX i D1) wx∧(∀j,j<i→(aX j D1).dw=true)∧dB c (k+2+i) (aX i D1)∧(aX i D1).field≤100000∧i+m≤200000000∧Aj c.N (aX i D1)≤m∧Touch (inG p) ws wx
set_option maxHeartbeats 2000000 in
theorem Nt{w ws:World}{p:Pl}{c:Cf}{k:Nat}{D:Wd}(h:il w p c D ws)(I:dB c k D)(hk:k≤1000)(hN:c.N≤1000):
  Calls Tryz.prog 22 #[.pointer (some ⟨p.a,0,none⟩)] ws (PY w p c (D.turn.begin 1) ws):=by
 have I1:dB c (k+2) (D.turn.begin 1):=I.turn.qy 1
 have hf0:(D.turn.begin 1).field≤100000:=show(0:Int)≤100000 by decide
 have HS:=hid h
 have HI1:=hid I1
 have HF0:=hid hf0
 have HK:=hid (And.intro hk hN)
 obtain⟨vt,ht⟩:=bS.turn c D
 have HTu:=hid ht
 have HBe:=hid (wN (c:=c) (D:=D.turn) 1 (by decide) (by decide))
 clear h I I1 ht hk hN hf0
 generalize D.turn.begin 1=D1 at*
 obtain⟨μ,hμ⟩:=Ky (RunT w p c k D1 ws)
 have HM:=hid hμ
 clear hμ
 go_enter Tryz.func22,Tryz.ntmps22
 go_wp2_with fail
 refine(HS.out.does HTu.out).mono ?_
 rintro e w1 ⟨rfl,h1,hT1⟩
 have HS1:=hid h1
 have HT1:=hid hT1
 clear h1 hT1
 go_wp2_with fail
 refine(HS1.out.does HBe.out).mono ?_
 rintro e w2 ⟨rfl,h2,hT2⟩
 have H0:Hid (∃m,RunT w p c k D1 ws m w2):=hid ⟨Aj c.N D1,0,h2,fun j hj=>by omega,HI1.out,HF0.out,by
  have h3:=il.FI (D:=D1) h2
  have h4:=HK.out.2
  unfold Aj
  omega,Nat.le_refl _,HT1.out.trans hT2⟩
 clear h2 hT2
 go_wp2_with fail
 generalize hw2:w2=wy at*
 clear hw2
 go_loopw [] (fun wx=>∃m,RunT w p c k D1 ws m wx) (fun wx=>μ wx)
 case atStart=>exact H0.out
 case round=>
  obtain⟨m0,hm0⟩:=hrel
  obtain⟨⟨i,hS,hj,hI,hf,hi,hr,hT⟩,_⟩:=HM.out wr m0 hm0
  clear hm0
  have HSx:=hid hS
  have hcu:=hS.FI
  have HTy:=hid (Kw (c:=c) hI.san (fun q=>by have h1:=hI.bd.eU q;have h2:=HK.out.1;omega))
  have HTx:=hid hT
  cases hb:(aX i D1).dw with
  |true=>
   rw[hb] at HTy
   obtain⟨hlt,hfl⟩:=Np (N:=c.N) hcu.2.2.1 hcu.1 hcu.2.1 hf hS.sizes hb
   have HJ:Hid (∀j,j<i+1→(aX j D1).dw=true):=hid (fun j h=>by
    by_cases e:j=i
    ·rw[e];exact hb
    ·exact hj j (by omega))
   have HIx:Hid (dB c (k+2+(i+1)) (aX (i+1) D1)):=hid hI.tally
   have HFx:Hid ((aX (i+1) D1).field≤100000):=hid hfl
   obtain⟨m,hme⟩:∃m,m+1=μ wr:=⟨μ wr-1,by omega⟩
   have HK2:Hid (i+1+m≤200000000∧Aj c.N (aX (i+1) D1)≤m):=hid ⟨by omega,by have:Aj c.N (aX (i+1) D1)+1≤Aj c.N (aX i D1):=hlt;omega⟩
   have HMe:=hid hme
   clear hS hcu hb hlt hfl hI hf hi hr hT hj hme
   go_wp2_with fail
   refine(HSx.out.does HTy.out).mono ?_
   rintro e w3 ⟨rfl,h3,hT3⟩
   have HE:Hid (RunT w p c k D1 ws m w3):=hid ⟨i+1,h3,HJ.out,HIx.out,HFx.out,HK2.out.1,HK2.out.2,HTx.out.trans hT3⟩
   clear h3 hT3
   go_wp2_with fail
   go_roundw
   case rel=>exact⟨m,HE.out⟩
   case measure=>
    have h1:=(HM.out w3 m HE.out).2
    have h2:=HMe.out
    omega
  |false=>
   rw[hb] at HTy
   have HTy2:=hid (HTy.out.as rfl (nK hb))
   have HBe2:=hid (wN (c:=c) (D:=aX i D1) 2 (by decide) (by decide))
   have HS2:Hid (aB ((aX i D1).begin 2)):=hid (hI.san.fF rfl rfl rfl rfl (fun b hb=>.inl hb))
   have HJ:=hid hj
   have HB:=hid hb
   clear hS hcu hb hI hf hi hr hT hj HTy
   go_wp2_with fail
   refine(HSx.out.does HTy2.out).mono ?_
   rintro e w3 ⟨rfl,h3,hT3⟩
   have HS3:=hid h3
   have HT3:=hid (HTx.out.trans hT3)
   clear h3 hT3
   go_wp2_with fail
   refine(HS3.out.does HBe2.out).mono ?_
   rintro e w4 ⟨rfl,h4,hT4⟩
   have HS4:=hid h4
   have HT4:=hid (HT3.out.trans hT4)
   have HPb:=hid (il.QQ h4 HS2.out HK.out.2)
   clear h4 hT4
   go_wp2_with fail
   generalize hw4:w4=wz at*
   clear hw4
   go_loopw [3] (fun x wx=>∃n:Nat,x=.int .i64 (n:Int)∧il w p c (ek n ((aX i D1).begin 2)) wx∧aB (ek n ((aX i D1).begin 2))∧(∀j,j<n→(ek j ((aX i D1).begin 2)).bO=true)∧n+DU (ek n ((aX i D1).begin 2))≤DU ((aX i D1).begin 2)∧Touch (inG p) ws wx) (fun x _=>DU ((aX i D1).begin 2)+1-(intOf x).toNat)
   case atStart=>exact⟨0,rfl,HS4.out,HS2.out,fun j hj=>by omega,by show 0+DU ((aX i D1).begin 2)≤_;omega,HT4.out⟩
   case round=>
    obtain⟨n,rfl,hS,hsn,hj,hpt,hT⟩:=hrel
    have HSx:=hid hS
    have HSn:=hid hsn
    have HJn:=hid hj
    have HPt:=hid hpt
    have HTx:=hid hT
    have HFl:=hid (wO (c:=c) hsn)
    have hpb:=HPb.out
    cases hb:(ek n ((aX i D1).begin 2)).bO with
    |true=>
     rw[hb] at HFl
     have hlt:DU (ek (n+1) ((aX i D1).begin 2))+1≤DU (ek n ((aX i D1).begin 2)):=IC hsn hS.FI.2.2.2 hb
     have HPn:Hid (n+1+DU (ek (n+1) ((aX i D1).begin 2))≤DU ((aX i D1).begin 2)):=hid (by omega)
     have HSn2:Hid (aB (ek (n+1) ((aX i D1).begin 2))):=hid hsn.flood
     have HJn2:Hid (∀j,j<n+1→(ek j ((aX i D1).begin 2)).bO=true):=hid (fun j h=>by
      by_cases e:j=n
      ·rw[e];exact hb
      ·exact hj j (by omega))
     have hnb:n<1000000000:=by omega
     clear hS hsn hj hpt hT hb hlt hpb
     go_wp2_with fail
     refine(HSx.out.does HFl.out).mono ?_
     rintro e w5 ⟨rfl,h5,hT5⟩
     have HS5:Hid (il w p c (ek (n+1) ((aX i D1).begin 2)) w5):=hid h5
     have HT5:=hid (HTx.out.trans hT5)
     clear h5 hT5
     go_wp2_with fail
     go_roundw
     case rel=>exact⟨n+1,by go_num,HS5.out,HSn2.out,HJn2.out,HPn.out,HT5.out⟩
     case measure=>
      have:=HPn.out
      simp[intOf]
      omega
    |false=>
     rw[hb] at HFl
     have HFl2:=hid (HFl.out.as rfl (jw hb))
     have HBf:=hid hb
     clear hS hsn hj hpt hT hb hpb HFl
     go_wp2_with fail
     refine(HSx.out.does HFl2.out).mono ?_
     rintro e w5 ⟨rfl,h5,hT5⟩
     have HS5:=hid h5
     have HT5:=hid (HTx.out.trans hT5)
     clear h5 hT5
     go_wp2_with fail
     go_ret
     exact⟨i,n,rfl,HJ.out,HB.out,HJn.out,HBf.out,HPt.out,HS5.out,HSn.out,HT5.out⟩
def BP:Nat→Wd
 |0=>Wd.new 4 16
 |n+1=>(BP n).born 1 0
def Kb:Wd:=(BP 4).put 1 0 2 0
def Mq:Wd:=Kb.put 2 0 3 0
def Mr:Wd:=Mq.put 4 0 4 0
def Mm:Wd:=Mr.less 2
def Mo:Wd:=Mm.less 3
def Oo:Wd:=Mo.less 4
def PS:Wd:=Oo.turn.begin 1
def PR:Wd:=(aX 8 PS).begin 2
def LQ:Wd:=ek 13 PR
theorem Qh:∀j:Fin 4,(BP j).nZ 1 0=0∧(BP j).gz 1 0=((j:Nat):Int)+1:=by decide
theorem Kg:∀j:Fin 8,(aX j PS).dw=true:=by decide
theorem Ht:(aX 8 PS).dw=false:=by decide
theorem Ke:∀j:Fin 13,(ek j PR).bO=true:=by decide
theorem tu:(ek 13 PR).bO=false:=by decide
theorem ru:LQ.eT 1=true∧LQ.eT 2=true∧LQ.eT 3=true∧LQ.eT 4=false:=by decide
def NU(h:Nat)(x:Int)(n:Int):Th:=⟨h,[],[x],[],false,⟨n,0,0,0,0,false,0,0⟩⟩
theorem NV:(BP 4).find 1=some (NU 0 0 1):=by rfl
theorem Qc:(BP 4).find 2=some (NU 1 0 1):=by rfl
theorem NW:Kb.find 2=some (NU 1 0 2):=by rfl
theorem Qd:Kb.find 3=some (NU 2 0 1):=by rfl
theorem Kc:Mq.find 4=some (NU 3 0 1):=by rfl
theorem Qe:Mr.find 2=some (NU 1 3 2):=by rfl
theorem Qf:Mm.find 3=some (NU 2 0 2):=by rfl
theorem Qg:Mo.find 4=some (NU 3 4 2):=by rfl
theorem last_one{P:Nat→Bool}{a b:Nat}(ha:∀j,j<a→P j=true)(ha2:P a=false)(hb:∀j,j<b→P j=true)(hb2:P b=false):a=b:=by
 rcases Nat.lt_trichotomy a b with h|h|h
 ·rw[hb a h] at ha2
  cases ha2
 ·exact h
 ·rw[ha b h] at hb2
  cases hb2
theorem dB.KC{c:Cf}{k:Nat}{D:Wd}(I:dB c k D)(r:Int):dB c (k+1) (D.less r):=I.to (I.san.less r) ((I.bd.less r).mono (Nat.le_succ k)) (FZ r)
set_option maxHeartbeats 2000000 in
theorem lC(w:World):Calls Tryz.prog 7 #[] w fun e w'=>e=.returned (.bool true)∧Below w.heap.size w w':=by
 go_enter Tryz.func7,Tryz.ntmps7
 go_wp2_with fail
 refine(wW Gm 4 _ (by decide) (by decide)).mono ?_
 rintro e w0 ⟨p,q,lo,rfl,h,_,_,_,_⟩
 have H0:Hid (il w p (jU 4) (BP 0) w0∧dB (jU 4) 0 (BP 0)):=hid ⟨h,dB.new (jU 4) (v:=16) (by decide)⟩
 clear h
 go_wp2_with fail
 go_loopw [4] (fun x wx=>∃k:Nat,k≤4∧x=.int .i64 ((k:Int)+1)∧il w p (jU 4) (BP k) wx∧dB (jU 4) k (BP k)) (fun x _=>5-(intOf x).toNat)
 case atStart=>exact⟨0,by omega,rfl,H0.out.1,H0.out.2⟩
 case round=>
  obtain⟨k,hk,rfl,hS,hI⟩:=hrel
  by_cases hlt:k<4
  ·have HB:=hid (ML (jU 4) (BP k) 1 0 hS)
   have hmk:=Qh ⟨k,hlt⟩
   rw[show(BP k).nZ 1 0=0 from hmk.1,show(BP k).gz 1 0=(k:Int)+1 from hmk.2,show(BP k).born 1 0=BP (k+1) from rfl] at HB
   have HI:=hid hI
   have hle:(k:Int)+1≤4:=by omega
   clear hS hI hmk
   go_wp2_with fail
   refine HB.out.mono ?_
   rintro e w1 ⟨rfl,h1,_,hOk⟩
   have HS1:=hid h1
   have HI1:Hid (dB (jU 4) (k+1) (BP (k+1))):=hid (HI.out.born hOk)
   clear h1 hOk
   go_wp2_with fail
   go_roundw
   case rel=>exact⟨k+1,by omega,by go_num,HS1.out,HI1.out⟩
   case measure=>simp[intOf];omega
  ·obtain rfl:k=4:=by omega
   have HS:=hid hS
   have I4:dB (jU 4) 4 (BP 4):=hI
   have I5:dB (jU 4) 5 Kb:=I4.put NV rfl 0 2 0
   have I6:dB (jU 4) 6 Mq:=I5.put NW rfl 0 3 0
   have I7:dB (jU 4) 7 Mr:=I6.put Kc rfl 0 4 0
   have I8:dB (jU 4) 8 Mm:=I7.KC 2
   have I9:dB (jU 4) 9 Mo:=I8.KC 3
   have HI10:Hid (dB (jU 4) 10 Oo):=hid (I9.KC 4)
   have HP1:=hid (Eo (c:=jU 4) (x:=2) (i:=0) I4.san NV rfl (by decide) (.inr ⟨_,Qc,rfl,by decide⟩) (by decide) (by decide))
   have HP2:=hid (Eo (c:=jU 4) (x:=3) (i:=0) I5.san NW rfl (by decide) (.inr ⟨_,Qd,rfl,by decide⟩) (by decide) (by decide))
   have HP3:=hid (Eo (c:=jU 4) (x:=4) (i:=0) I6.san Kc rfl (by decide) (.inr ⟨_,Kc,rfl,by decide⟩) (by decide) (by decide))
   have HL1:=hid (En (c:=jU 4) Qe rfl (by decide) (by decide) (by decide))
   have HL2:=hid (En (c:=jU 4) Qf rfl (by decide) (by decide) (by decide))
   have HL3:=hid (En (c:=jU 4) Qg rfl (by decide) (by decide) (by decide))
   clear hS hI I4 I5 I6 I7 I8 I9
   go_wp2_with fail
   refine(HS.out.does HP1.out).mono ?_
   rintro e w1 ⟨rfl,h,_⟩
   have H1:Hid (il w p (jU 4) Kb w1):=hid h
   clear h
   go_wp2_with fail
   refine(H1.out.does HP2.out).mono ?_
   rintro e w2 ⟨rfl,h,_⟩
   have H2:Hid (il w p (jU 4) Mq w2):=hid h
   clear h
   go_wp2_with fail
   refine(H2.out.does HP3.out).mono ?_
   rintro e w3 ⟨rfl,h,_⟩
   have H3:Hid (il w p (jU 4) Mr w3):=hid h
   clear h
   go_wp2_with fail
   refine(H3.out.does HL1.out).mono ?_
   rintro e w4 ⟨rfl,h,_⟩
   have H4:Hid (il w p (jU 4) Mm w4):=hid h
   clear h
   go_wp2_with fail
   refine(H4.out.does HL2.out).mono ?_
   rintro e w5 ⟨rfl,h,_⟩
   have H5:Hid (il w p (jU 4) Mo w5):=hid h
   clear h
   go_wp2_with fail
   refine(H5.out.does HL3.out).mono ?_
   rintro e w6 ⟨rfl,h,_⟩
   have H6:Hid (il w p (jU 4) Oo w6):=hid h
   clear h
   go_wp2_with fail
   refine(Nt H6.out HI10.out (by decide) (by decide)).mono ?_
   rintro e w7 ⟨m,n,rfl,t1,t2,f1,f2,_,hS,hsn,_⟩
   have t1:∀j,j<m→(aX j PS).dw=true:=t1
   have t2:(aX m PS).dw=false:=t2
   obtain rfl:m=8:=last_one (P:=fun j=>(aX j PS).dw) t1 t2 (fun j hj=>Kg ⟨j,hj⟩) Ht
   have f1:∀j,j<n→(ek j PR).bO=true:=f1
   have f2:(ek n PR).bO=false:=f2
   obtain rfl:n=13:=last_one (P:=fun j=>(ek j PR).bO) f1 f2 (fun j hj=>Ke ⟨j,hj⟩) tu
   have H7:Hid (il w p (jU 4) LQ w7):=hid hS
   have HB1:=hid ((bS.eT (jU 4) LQ 1 (vw 1)).as (vb ru.1) rfl)
   have HB2:=hid ((bS.eT (jU 4) LQ 2 (vw 2)).as (vb ru.2.1) rfl)
   have HB3:=hid ((bS.eT (jU 4) LQ 3 (vw 3)).as (vb ru.2.2.1) rfl)
   have HB4:=hid ((bS.eT (jU 4) LQ 4 (vw 4)).as (vb ru.2.2.2) rfl)
   have HFl:=hid ((wO (c:=jU 4) (D:=LQ) hsn).as (vb tu) (jw tu))
   clear hS hsn t1 t2 f1 f2
   go_wp2_with fail
   refine(H7.out.does HB1.out).mono ?_
   rintro e w8 ⟨rfl,h,_⟩
   have H8:=hid h
   clear h
   go_wp2_with fail
   refine(H8.out.does HB2.out).mono ?_
   rintro e w9 ⟨rfl,h,_⟩
   have H9:=hid h
   clear h
   go_wp2_with fail
   refine(H9.out.does HB3.out).mono ?_
   rintro e w10 ⟨rfl,h,_⟩
   have H10:=hid h
   clear h
   go_wp2_with fail
   refine(H10.out.does HB4.out).mono ?_
   rintro e w11 ⟨rfl,h,_⟩
   have H11:=hid h
   clear h
   go_wp2_with fail
   refine(H11.out.does HFl.out).mono ?_
   rintro e w12 ⟨rfl,h,_⟩
   have H12:=hid h
   clear h
   go_wp2_with fail
   go_ret
   exact⟨rfl,H12.out.below⟩
theorem Az(w:World):Calls Tryz.prog 14 #[.pointer none] w fun e w'=>e=.returned (.bool false)∧Below w.heap.size w w':=by
 have HP:=hid (fun w:World=>Lv w)
 go_enter Tryz.func14,Tryz.ntmps14
 go_wp2_with fail
 refine(HP.out _).mono ?_
 rintro e w2 ⟨rfl,hb⟩
 have HB2:=hid hb
 clear hb
 go_wp2_with fail
 go_ret
 exact⟨rfl,HB2.out⟩
theorem Eg{D:Wd}(h:D.phase=2)(hk:D.aa<(D.n:Int)):D.bO=true:=by
 unfold Wd.bO
 simp[h,hk]
set_option maxHeartbeats 2000000 in
theorem vv(ph:Int)(n:Nat)(hn:n<256)(w:World):
  Calls Tryz.prog 6 #[.int .i64 ph,.int .u8 (n:Int)] w fun e w'=>e=.returned (.bool true)∧Below w.heap.size w w':=by
 have HGw:=hid (fun(w:World) (a:Option Addr)=>Iw n hn a w)
 have HNn:Hid (1≤n%60+4):=hid (by omega)
 clear hn
 go_enter Tryz.func6,Tryz.ntmps6
 go_wp2_with fail
 refine(HGw.out _ _ (La _ _)).mono ?_
 rintro e w1 ⟨p,v,cv,D,rfl,hS,hSan,hDy⟩
 have hn:D.n=n%60+4:=by
  obtain⟨zs,m,_,hR,_⟩:=hS
  exact hR.n
 have HB1:=hid (ak w (.cells #[.int .i64 2,.int .i64 0,.int .i64 1,.int .i64 0] 31))
 have HS1:=hid hS
 have HSan:=hid hSan
 have HDn:=hid hn
 clear hS hSan hDy hn
 go_wp2_with fail
 refine(Az _).mono ?_
 rintro e w2 ⟨rfl,hb⟩
 have HS3:=hid (HS1.out.later hb)
 clear hb
 by_cases hp:0≤ph∧ph≤3
 ·have HBe:=hid (wN (c:=jU (n%60+4)) (D:=D) ph hp.1 hp.2)
  have hsn:aB (D.begin ph):=HSan.out.fF rfl rfl rfl rfl (fun b hb=>.inl hb)
  have HFl:=hid (wO (c:=jU (n%60+4)) hsn)
  have hfb:(D.begin ph).bO=(ph==2):=by
   by_cases h2:ph=2
   ·subst h2
    rw[Eg rfl (by rw[show(D.begin 2).aa=0 from rfl,show(D.begin 2).n=D.n from rfl,HDn.out];have:=HNn.out;omega)]
    rfl
   ·rw[rq h2]
    symm
    rw[beq_eq_false_iff_ne]
    exact h2
  rw[hfb] at HFl
  clear hsn hfb
  generalize (D.begin ph).flood=D5 at*
  generalize D.begin ph=D4 at*
  cases hph:(ph==2)
  ·rw[hph] at HFl
   go_wp2_with fail
   refine(HS3.out.does HBe.out).mono ?_
   rintro e w4 ⟨rfl,h,_⟩
   have HS4:=hid h
   clear h
   go_wp2_with fail
   refine(HS4.out.does HFl.out).mono ?_
   rintro e w5 ⟨rfl,h,_⟩
   have HS5:=hid h
   clear h
   go_wp2_with fail
   refine(lC _).mono ?_
   rintro e w9 ⟨rfl,hb⟩
   have HB9:=hid (below_step (below_step HB1.out HS5.out.below) hb)
   clear hb
   go_wp2_with fail
   go_ret
   exact⟨rfl,HB9.out⟩
  ·rw[hph] at HFl
   go_wp2_with fail
   refine(HS3.out.does HBe.out).mono ?_
   rintro e w4 ⟨rfl,h,_⟩
   have HS4:=hid h
   clear h
   go_wp2_with fail
   refine(HS4.out.does HFl.out).mono ?_
   rintro e w5 ⟨rfl,h,_⟩
   have HS5:=hid h
   clear h
   go_wp2_with fail
   refine(lC _).mono ?_
   rintro e w9 ⟨rfl,hb⟩
   have HB9:=hid (below_step (below_step HB1.out HS5.out.below) hb)
   clear hb
   go_wp2_with fail
   go_ret
   exact⟨rfl,HB9.out⟩
 ·have e:LU ph=false:=decide_eq_false hp
  have HBe:=hid (bS.qy (jU (n%60+4)) D ph)
  rw[e] at HBe
  clear e
  by_cases h0:ph<0
  ·go_wp2_with fail
   refine(HS3.out.does HBe.out).mono ?_
   rintro e w4 ⟨rfl,h,_⟩
   have HS4:=hid h
   clear h
   go_wp2_with fail
   refine(lC _).mono ?_
   rintro e w9 ⟨rfl,hb⟩
   have HB9:=hid (below_step (below_step HB1.out HS4.out.below) hb)
   clear hb
   go_wp2_with fail
   go_ret
   exact⟨rfl,HB9.out⟩
  ·have h3:3<ph:=by omega
   go_wp2_with fail
   refine(HS3.out.does HBe.out).mono ?_
   rintro e w4 ⟨rfl,h,_⟩
   have HS4:=hid h
   clear h
   go_wp2_with fail
   refine(lC _).mono ?_
   rintro e w9 ⟨rfl,hb⟩
   have HB9:=hid (below_step (below_step HB1.out HS4.out.below) hb)
   clear hb
   go_wp2_with fail
   go_ret
   exact⟨rfl,HB9.out⟩
end Go.Proofs.YtbfdimibehkbjaaGreat.Pk
