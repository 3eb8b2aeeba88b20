/-
  Texts laid together: FloodW, FloodRep, FloodHold, FloodDo, FloodPot, FloodRun, FloodLaw.
-/
import Derived.Test.YtofhdfjkhfkhiaaGreatRefSeeEtc
import Derived.Test.YtofhdfjkhfkhiaaGreatTintFn4Etc
import Derived.Test.YtofhdfjkhfkhiaaGreatFloodFnEtc
import Derived.Test.YtofhdfjkhfkhiaaGreatGravGrownEtc
namespace Go.Proofs.YtofhdfjkhfkhiaaGreat.Pk
open Lib (hid)
open Go.RowKit
set_option linter.unusedVariables false
set_option linter.unusedSimpArgs false
set_option maxRecDepth 100000
section
variable (D:Wd)
def Wd.scanAt:Option Th→Wd
 |none=>{D with scan:=0}
 |some t=>if D.scanF<(t.pt.length:Int) then {D.touch (nth t.pt D.scanF.toNat) with scanF:=D.scanF+1} else {D with scan:=0}
def Wd.settle(r:Int):Wd:=D.mark r (fun m=>{m with shade:=D.parity,shadow:=D.shd r})
def Wd.lookT(r:Int):Option Th→Wd
 |none=>D
 |some t=>if t.mr.dead then D else if D.shd r<t.mr.refs then(D.settle r).touch r else D.settle r
def Wd.lookAt:Wd:={D.lookT (D.cursor+1) (D.find (D.cursor+1)) with cursor:=D.cursor+1}
def Wd.floodB:Bool:=decide (D.phase=2)&&(!decide (D.scan=0)|| !D.ring.isEmpty||decide (D.cursor<(D.n:Int)))
def Wd.flood:Wd:=
 if D.floodB then
  if D.scan=0 then
   match D.ring with
   |b::rest=>{D with ring:=rest,scan:=(b:Int)+1,scanF:=0}
   |[]=>D.lookAt
  else D.scanAt (D.find D.scan)
 else D
end
def wG(D:Wd)(x:Int):Prop:=∀v,v∈D.live→(v.h:Int)+1=x→v.mr.dead=true∨v.mr.color=D.parity
def gu(D:Wd):Prop:=∀u,u∈D.live→u.mr.dead=false→u.mr.color=D.parity→∀i,i<u.pt.length→u.h∈D.ring∨((u.h:Int)+1=D.scan∧D.scanF≤(i:Int))∨wG D (nth u.pt i)
def PU(D D':Wd):Prop:=D'.parity=D.parity∧D'.scan=D.scan∧D'.scanF=D.scanF
section
variable {D D':Wd} {t u v:Th} {r x y:Int} {g:Th→Th}
theorem gu.upd(H:gu D)(S:San D)(hf:D.find r=some t)(hts:D'.ts=updL r g D.ts)(hp:D'.parity=D.parity)(hsc:∀u:Th,u.mr.dead=false→(u.h:Int)+1=D.scan→u∈D'.live→D'.scan=D.scan)(hsf:D'.scanF=D.scanF)(hh:(g t).h=t.h)
  (hr:∀u:Th,u∈D'.live→u.mr.dead=false→u.h∈D.ring→u.h∈D'.ring)
  (hd:(g t).mr.dead=false→(g t).mr.color=D.parity→t.mr.dead=false∧t.mr.color=D.parity∧(g t).pt=t.pt)
  (hb:t.mr.dead=true∨t.mr.color=D.parity→(g t).mr.dead=true∨(g t).mr.color=D.parity):gu D':=by
 have htl:=(find_live hf).1
 have hm:∀s,s∈D'.live→s=g t∨(s∈D.live∧s.h≠t.h):=fun s h=>by
  unfold Wd.live at h
  rw[hts] at h
  exact aN S.nd hf h
 have hN:∀x,wG D x→wG D' x:=fun x h v hv e=>by
  rw[hp]
  rcases hm v hv with rfl|⟨k,_⟩
  ·rw[hh] at e
   exact hb (h t htl e)
  ·exact h v k e
 intro u hu h1 h2 i hi
 rw[hp] at h2
 have key:∀s,s∈D.live→s.mr.dead=false→s.mr.color=D.parity→s.h=u.h→s.pt=u.pt→u.h∈D'.ring∨((u.h:Int)+1=D'.scan∧D'.scanF≤(i:Int))∨wG D' (nth u.pt i):=fun s hs k1 k2 e1 e2=>by
  rcases H s hs k1 k2 i (by rw[e2];exact hi) with h|h|h
  ·exact .inl (hr u hu h1 (by rw[←e1];exact h))
  ·refine .inr (.inl ?_)
   have e3:(u.h:Int)+1=D.scan:=by rw[←e1];exact h.1
   rw[hsc u h1 e3 hu,hsf]
   exact⟨e3,h.2⟩
  ·exact .inr (.inr (hN _ (by rw[←e2];exact h)))
 rcases hm u hu with rfl|⟨k,_⟩
 ·obtain⟨k1,k2,k3⟩:=hd h1 h2
  exact key t htl k1 k2 hh.symm k3.symm
 ·exact key u k h1 h2 rfl rfl
theorem gu.mark(H:gu D)(S:San D)(r:Int){f:Mrk→Mrk}(hd:∀m,(f m).dead=m.dead)(hc:∀m,(f m).color=m.color):gu (D.mark r f):=by
 cases hf:D.find r with
 |none=>rw[mark_none f hf];exact H
 |some t=>exact H.upd (g:=fun t=>{t with mr:=f t.mr}) S hf rfl rfl (fun _ _ _ _=>rfl) rfl rfl (fun _ _ _ h=>h) (fun h1 h2=>⟨(hd _).symm.trans h1,(hc _).symm.trans h2,rfl⟩) (fun h=>by rw[show(({t with mr:=f t.mr}:Th).mr.dead)=t.mr.dead from hd _,show(({t with mr:=f t.mr}:Th).mr.color)=t.mr.color from hc _];exact h)
theorem gu.same(H:gu D)(h:D'.ts=D.ts)(h2:D'.ring=D.ring)(k:PU D D'):gu D':=by
 have hl:D'.live=D.live:=by unfold Wd.live;rw[h]
 unfold gu wG at*
 rw[hl,h2,k.1,k.2.1,k.2.2]
 exact H
theorem Be{x:Int}:∀{l:List Nat},hasB (ints l) x=true→x.toNat∈l
 |[],h=>by simp[ints,hasB] at h
 |a::l,h=>by
  by_cases e:(a:Int)=x
  ·have:x.toNat=a:=by omega
   rw[this]
   exact List.mem_cons_self ..
  ·refine List.mem_cons_of_mem _ (Be ?_)
   unfold hasB ints at h ⊢
   simp at h ⊢
   rcases h with h|h
   ·exact absurd h e
   ·exact h
theorem gu.touch(H:gu D)(S:San D)(r:Int):gu (D.touch r):=by
 cases ht:D.toucht r with
 |false=>
  have e:D.touch r=D:=by unfold Wd.touch;rw[ht];rfl
  rw[e]
  exact H
 |true=>
  cases hf:D.find r with
  |none=>unfold Wd.toucht at ht;rw[hf] at ht;cases ht
  |some t=>
   obtain⟨htl,er⟩:=find_live hf
   have e:D.touch r={D.paint r with ring:=if hasB (ints D.ring) (r-1) then D.ring else D.ring++[(r-1).toNat]}:=by unfold Wd.touch;rw[ht];rfl
   have hth:t.h=(r-1).toNat:=by omega
   have hin:t.h∈(D.touch r).ring:=by
    rw[e]
    show t.h∈(if hasB (ints D.ring) (r-1) then D.ring else D.ring++[(r-1).toNat])
    split
    ·rename_i hb
     rw[hth]
     exact Be hb
    ·rw[hth]
     simp
   have hri:∀b,b∈D.ring→b∈(D.touch r).ring:=fun b hb=>by
    rw[e]
    show b∈(if hasB (ints D.ring) (r-1) then D.ring else D.ring++[(r-1).toNat])
    split
    ·exact hb
    ·exact List.mem_append_left _ hb
   have hsc:(D.touch r).scan=D.scan∧(D.touch r).scanF=D.scanF∧(D.touch r).parity=D.parity:=by rw[e];exact⟨rfl,rfl,rfl⟩
   have hm:∀s,s∈(D.touch r).live→s={t with mr:={t.mr with color:=D.parity}}∨(s∈D.live∧s.h≠t.h):=fun s h=>by
    rw[e] at h
    exact aN (g:=fun t=>{t with mr:={t.mr with color:=D.parity}}) S.nd hf h
   intro u hu h1 h2 i hi
   rcases hm u hu with rfl|⟨k,_⟩
   ·exact .inl hin
   ·rw[hsc.2.2] at h2
    rcases H u k h1 h2 i hi with h|h|h
    ·exact .inl (hri _ h)
    ·exact .inr (.inl (by rw[hsc.1,hsc.2.1];exact h))
    ·refine .inr (.inr (fun v hv e2=> ?_))
     rw[hsc.2.2]
     rcases hm v hv with rfl|⟨k2,_⟩
     ·exact .inr rfl
     ·exact h v k2 e2
theorem gu.bury(H:gu D)(S:San D)(x:Int):gu (D.bury x):=by
 unfold Wd.bury
 cases hf:D.find x with
 |none=>exact H
 |some t=>
  simp only
  obtain⟨htl,er⟩:=find_live hf
  split
  ·exact H
  ·rename_i hnd
   have hm:∀s,s∈(D.lay x t).live→s.mr.dead=false→s.h≠t.h:=fun s h h2=>by
    unfold Wd.live at h
    rw[gp] at h
    rcases aN (g:=fun s=>{s with mr:={s.mr with dead:=true,left:=(t.pt.length:Int),leaves:=(t.lv.length:Int)}}) S.nd hf h with rfl|⟨_,h3⟩
    ·cases h2
    ·exact h3
   refine H.upd (g:=fun s=>{s with mr:={s.mr with dead:=true,left:=(t.pt.length:Int),leaves:=(t.lv.length:Int)}}) S hf (gp x t) rfl (fun u h1 h2 hu=> ?_) rfl rfl (fun u hu h1 h2=> ?_) (fun h _=>by cases h) (fun _=>.inl rfl)
   ·have:=hm u hu h1
    show(if D.scan=x then 0 else D.scan)=D.scan
    rw[if_neg (by omega)]
   ·have:=hm u hu h1
    show u.h∈D.ring.filter (fun b=>b !=t.h)
    exact List.mem_filter.2 ⟨h2,by simpa using this⟩
theorem gu.inter(H:gu D)(S:San D)(x:Int):gu (D.inter x):=by
 unfold Wd.inter
 split
 ·exact H.bury S x
 ·exact H
theorem gu.less(H:gu D)(S:San D)(r:Int):gu (D.less r):=
 gu.inter (D:=(D.down r).sus) ((H.mark S r (f:=fun m=>{m with refs:=m.refs-1}) (fun _=>rfl) (fun _=>rfl)).same rfl rfl ⟨rfl,rfl,rfl⟩) (S.down r).sus r
theorem gu.more(H:gu D)(S:San D)(r:Int):gu (D.more r):=(H.mark S r (f:=fun m=>{m with refs:=m.refs+1}) (fun _=>rfl) (fun _=>rfl)).touch (S.up r) r
theorem gu.setP(H:gu D)(S:San D)(hf:D.find r=some t){i:Nat}(hi:i<t.pt.length)(hx:t.mr.dead=true∨wG D x):gu (D.setP r i x):=by
 obtain⟨htl,er⟩:=find_live hf
 have hm:∀s,s∈(D.setP r i x).live→s={t with pt:=t.pt.set i x}∨(s∈D.live∧s.h≠t.h):=fun s h=>aN (g:=fun t=>{t with pt:=t.pt.set i x}) S.nd hf h
 have hN:∀x',wG D x'→wG (D.setP r i x) x':=fun x' h v hv e=>by
  rcases hm v hv with rfl|⟨k,_⟩
  ·exact h t htl e
  ·exact h v k e
 intro u hu h1 h2 j hj
 rcases hm u hu with rfl|⟨k,_⟩
 ·have h1:t.mr.dead=false:=h1
  by_cases e:i=j
  ·subst e
   rcases hx with h|h
   ·rw[h1] at h
    cases h
   ·refine .inr (.inr ?_)
    show wG _ (nth (t.pt.set i x) i)
    rw[aB hi]
    exact hN _ h
  ·rcases H t htl h1 h2 j (by simpa using hj) with h|h|h
   ·exact .inl h
   ·exact .inr (.inl h)
   ·refine .inr (.inr ?_)
    show wG _ (nth (t.pt.set i x) j)
    rw[ae e]
    exact hN _ h
 ·rcases H u k h1 h2 j hj with h|h|h
  ·exact .inl h
  ·exact .inr (.inl h)
  ·exact .inr (.inr (hN _ h))
theorem wG.zero:wG D 0:=fun v _ e=>by omega
theorem gu.drain(H:gu D)(S:San D)(hf:D.find r=some t)(hd:t.mr.dead=true){i:Nat}(hi:i<t.pt.length)(x:Int):gu (D.drain r i x):=by
 have S1:=S.setP hf i (x:=0) (fun _=>rfl)
 have H1:gu (D.setP r i 0):=H.setP S hf hi (.inl hd)
 have key:∀D2:Wd,San D2→gu D2→gu ((D2.down x).inter x):=fun D2 S2 H2=>(H2.mark S2 x (f:=fun m=>{m with refs:=m.refs-1}) (fun _=>rfl) (fun _=>rfl)).inter (S2.down x) x
 unfold Wd.drain
 by_cases hc:(D.setP r i 0).cnt x=0
 ·rw[if_pos hc]
  exact H1
 ·rw[if_neg hc]
  have K:San (if(D.setP r i 0).counted r i then(D.setP r i 0).lighten x else D.setP r i 0)∧gu (if(D.setP r i 0).counted r i then(D.setP r i 0).lighten x else D.setP r i 0):=by
   split
   ·refine⟨S1.lighten x,?_⟩
    unfold Wd.lighten
    split
    ·exact H1.mark S1 x (f:=fun m=>{m with shadow:=m.shadow-1}) (fun _=>rfl) (fun _=>rfl)
    ·exact H1
   ·exact⟨S1,H1⟩
  exact key _ K.1 K.2
theorem gu.step(H:gu D)(S:San D):gu D.step:=by
 cases hg:D.grave with
 |nil=>rw[show D.step=D by unfold Wd.step;rw[hg]];exact H
 |cons q rest=>
  obtain⟨t,htl,e,hf,hd,d,es⟩:=S.head hg
  rw[es]
  unfold Wd.work
  have hw:=S.w
  by_cases ha:D.ahead t.mr.leaves<t.mr.left
  ·have h0:0≤D.ahead t.mr.leaves:=by
    unfold Wd.ahead
    refine Int.mul_nonneg ?_ (by omega)
    split<;>omega
   rw[if_pos ha]
   have hi:(t.mr.left-1).toNat<t.pt.length:=by have:=d.f1;omega
   exact(H.drain S hf hd hi _).mark (S.drain hf _ _) _ (fun _=>rfl) (fun _=>rfl)
  ·rw[if_neg ha]
   by_cases hl:0<t.mr.leaves
   ·rw[if_pos hl]
    exact H.upd (g:=fun s=>{s with lv:=s.lv.set (t.mr.leaves-1).toNat (-1),mr:={s.mr with leaves:=t.mr.leaves-1}}) S hf (fH _ _ _ _) rfl (fun _ _ _ _=>rfl) rfl rfl (fun _ _ _ h=>h) (fun h1 h2=>⟨h1,h2,rfl⟩) (fun h=>h)
   ·rw[if_neg hl]
    have hlive:({({D with grave:=rest}:Wd).fU (q:Int) t.h with pending:=D.pending-1}:Wd).live=D.live.filter (fun s=>s.h !=t.h):=bY (g:=fun s=>{s with ended:=true}) (fun _=>rfl) S.nd hf
    intro u hu h1 h2 i hi
    rw[hlive] at hu
    rcases H u (List.mem_filter.1 hu).1 h1 h2 i hi with h|h|h
    ·exact .inl h
    ·exact .inr (.inl h)
    ·refine .inr (.inr (fun v hv e2=> ?_))
     rw[hlive] at hv
     exact h v (List.mem_filter.1 hv).1 e2
theorem gu.born{N:Nat}(H:gu D)(S:San D)(B:BornOk D x y N):gu (D.born x y):=by
 unfold Wd.born
 by_cases hE:D.mkE x y=0
 ·rw[if_pos hE]
  have S1:=B.san S
  have eR:D.mkR x y=(D.mkB:Int)+1:=by unfold Wd.mkR;rw[if_pos hE]
  have eD:D.mkD x y=D.made D.mkB (D.clean.tail.take (D.mkN x y)) (D.clean.tail.drop (D.mkN x y)) x.toNat y.toNat:=by unfold Wd.mkD;rw[if_pos hE]
  have hlv:(D.mkD x y).live=D.live++[⟨D.mkB,ints (D.clean.tail.take (D.mkN x y)),zer x.toNat,zer y.toNat,false,Mrk.new⟩]:=by rw[eD,live_made]
  have hpar:(D.mkD x y).parity=D.parity∧(D.mkD x y).ring=D.ring∧(D.mkD x y).scan=D.scan∧(D.mkD x y).scanF=D.scanF:=by rw[eD];exact⟨rfl,rfl,rfl,rfl⟩
  have hm:∀s,s∈((D.mkD x y).dye (D.mkR x y)).live→(s.mr.color=D.parity∧∀i,nth s.pt i=0)∨((s.mr.color=D.parity)∧∃v,v∈D.live∧s.h=v.h∧(v.h:Int)+1=D.mkR x y)∨∃v,v∈D.live∧s.h=v.h∧s.mr=v.mr∧s.pt=v.pt:=fun s hs=>by
   obtain⟨v,hv,e1,e2,h⟩:=bv S1 hs
   rw[hlv] at hv
   rcases h with⟨k1,k2⟩|⟨k1,k2⟩
   ·rcases List.mem_append.1 hv with h|h
    ·exact .inr (.inl ⟨by rw[k2];exact hpar.1,v,h,e1,k1⟩)
    ·obtain rfl:=List.mem_singleton.1 h
     exact .inl ⟨by rw[k2];exact hpar.1,fun i=>by rw[e2];exact pY _ i⟩
   ·rcases List.mem_append.1 hv with h|h
    ·exact .inr (.inr ⟨v,h,e1,k2,e2⟩)
    ·obtain rfl:=List.mem_singleton.1 h
     exact absurd eR.symm k1
  have hfr:=B.fresh hE
  have hno:∀v,v∈D.live→(v.h:Int)+1≠D.mkR x y:=fun v hv e=>hfr v hv (by omega)
  refine gu.more (D:=(D.mkD x y).dye (D.mkR x y)) ?_ (S1.mark _ (fun _=>rfl) (fun _=>rfl) (fun _=>rfl)) _
  have hN:∀x',wG D x'→wG ((D.mkD x y).dye (D.mkR x y)) x':=fun x' h v hv e=>by
   show v.mr.dead=true∨v.mr.color=(D.mkD x y).parity
   rw[hpar.1]
   rcases hm v hv with⟨k,_⟩|⟨k,_⟩|⟨s,hs,e1,e2,_⟩
   ·exact .inr k
   ·exact .inr k
   ·rw[e2]
    exact h s hs (by rw[←e1];exact e)
  intro u hu h1 h2 i hi
  have h2:u.mr.color=(D.mkD x y).parity:=h2
  rw[hpar.1] at h2
  show u.h∈(D.mkD x y).ring∨((u.h:Int)+1=(D.mkD x y).scan∧(D.mkD x y).scanF≤(i:Int))∨_
  rw[hpar.2.1,hpar.2.2.1,hpar.2.2.2]
  rcases hm u hu with⟨_,k⟩|⟨_,v,hv,_,k⟩|⟨s,hs,e1,e2,e3⟩
  ·exact .inr (.inr (by rw[k i];exact wG.zero))
  ·exact absurd k (hno v hv)
  ·rw[e2] at h1 h2
   rcases H s hs h1 h2 i (by rw[←e3];exact hi) with h|h|h
   ·exact .inl (by rw[e1];exact h)
   ·exact .inr (.inl (by rw[e1];exact h))
   ·exact .inr (.inr (by rw[e3];exact hN _ h))
 ·rw[if_neg hE]
  exact H
theorem yB(S:San D)(hp:D.phase≠0)(x:Int):wG (D.touch x) x:=fun v hv e=>by
 cases hd:v.mr.dead with
 |true=>exact .inl rfl
 |false=>exact .inr ((touched S hp v hv e hd).trans (dY x).1.symm)
theorem wG.upd(h:wG D x)(S:San D)(hf:D.find r=some t)(hts:D'.ts=updL r g D.ts)(hp:D'.parity=D.parity)(hh:(g t).h=t.h)(hb:t.mr.dead=true∨t.mr.color=D.parity→(g t).mr.dead=true∨(g t).mr.color=D.parity):wG D' x:=fun v hv e=>by
 unfold Wd.live at hv
 rw[hts] at hv
 rw[hp]
 rcases aN S.nd hf hv with rfl|⟨k,_⟩
 ·rw[hh] at e
  exact hb (h t (find_live hf).1 e)
 ·exact h v k e
theorem gu.put(H:gu D)(S:San D)(hp:D.phase≠0)(hf:D.find r=some t)(hd:t.mr.dead=false){i:Nat}(hi:i<t.pt.length):gu (D.put r i x y):=by
 have h1:San (D.putS r i x)∧gu (D.putS r i x):=by
  unfold Wd.putS
  by_cases hx0:x=0
  ·rw[if_pos hx0]
   exact⟨S.setP hf i (fun h=>by rw[hd] at h;cases h),H.setP S hf hi (.inr (by rw[hx0];exact wG.zero))⟩
  ·rw[if_neg hx0]
   obtain⟨m,hf1,hm1⟩:=more_find r hf x
   have S1:=S.more x
   exact⟨S1.setP hf1 i (fun h=>by have h:m.dead=true:=h;rw[hm1,hd] at h;cases h),(H.more S x).setP S1 hf1 hi (.inr (yB (S.up x) hp x))⟩
 unfold Wd.put Wd.putY
 split
 ·exact(h1.2.touch h1.1 y).less (h1.1.touch y) y
 ·exact h1.2
theorem gu.tally(H:gu D)(S:San D):gu D.tally:=by
 unfold Wd.tally
 split
 ·unfold Wd.tallyAt
  split
  ·exact H.same rfl rfl ⟨rfl,rfl,rfl⟩
  ·split
   ·exact H.same rfl rfl ⟨rfl,rfl,rfl⟩
   ·split
    ·exact(H.mark S _ (f:=fun m=>{m with shade:=D.parity,shadow:=D.shd (nth _ D.field.toNat)+1}) (fun _=>rfl) (fun _=>rfl)).same rfl rfl ⟨rfl,rfl,rfl⟩
    ·exact(H.mark S _ (f:=fun m=>{m with count:=D.parity}) (fun _=>rfl) (fun _=>rfl)).same rfl rfl ⟨rfl,rfl,rfl⟩
 ·exact H
theorem San.iY(S:San D)(o:Option Th):San (D.scanAt o):=by
 unfold Wd.scanAt
 split
 ·exact S.same_but rfl rfl rfl rfl (fun b hb=>.inl hb)
 ·split
  ·exact(S.touch _).same_but rfl rfl rfl rfl (fun b hb=>.inl hb)
  ·exact S.same_but rfl rfl rfl rfl (fun b hb=>.inl hb)
theorem San.settle(S:San D)(r:Int):San (D.settle r):=S.mark r (fun _=>rfl) (fun _=>rfl) (fun _=>rfl)
theorem San.lookT(S:San D)(r:Int)(o:Option Th):San (D.lookT r o):=by
 unfold Wd.lookT
 split
 ·exact S
 ·split
  ·exact S
  ·split
   ·exact(S.settle r).touch r
   ·exact S.settle r
theorem San.flood(S:San D):San D.flood:=by
 unfold Wd.flood
 split
 ·split
  ·split
   ·rename_i b rest hr
    exact S.same_but rfl rfl rfl rfl (fun c hc=>.inl (by rw[hr];exact List.mem_cons_of_mem _ hc))
   ·exact(S.lookT _ _).same_but rfl rfl rfl rfl (fun b hb=>.inl hb)
  ·exact S.iY _
 ·exact S
theorem gu.lookT(H:gu D)(S:San D)(r:Int)(o:Option Th):gu (D.lookT r o):=by
 have hs:gu (D.settle r):=H.mark S r (f:=fun m=>{m with shade:=D.parity,shadow:=D.shd r}) (fun _=>rfl) (fun _=>rfl)
 unfold Wd.lookT
 split
 ·exact H
 ·split
  ·exact H
  ·split
   ·exact hs.touch (S.settle r) r
   ·exact hs
theorem gu.flood(H:gu D)(S:San D)(hF:0≤D.scanF):gu D.flood:=by
 unfold Wd.flood
 cases hb:D.floodB with
 |false=>rw[if_neg (by decide)];exact H
 |true=>
  rw[if_pos rfl]
  have hp:D.phase≠0:=by
   unfold Wd.floodB at hb
   simp at hb
   omega
  by_cases hs:D.scan=0
  ·rw[if_pos hs]
   cases hr:D.ring with
   |nil=>exact(H.lookT S _ _).same rfl rfl ⟨rfl,rfl,rfl⟩
   |cons b rest=>
    intro u hu h1 h2 i hi
    rcases H u hu h1 h2 i hi with h|h|h
    ·rw[hr] at h
     rcases List.mem_cons.1 h with h|h
     ·exact .inr (.inl ⟨by show(u.h:Int)+1=(b:Int)+1;rw[h],by show(0:Int)≤_;omega⟩)
     ·exact .inl h
    ·omega
    ·exact .inr (.inr h)
  ·rw[if_neg hs]
   unfold Wd.scanAt
   cases hf:D.find D.scan with
   |none=>
    simp only
    intro u hu h1 h2 i hi
    rcases H u hu h1 h2 i hi with h|h|h
    ·exact .inl h
    ·have:=S.findIt hu
     rw[h.1,hf] at this
     cases this
    ·exact .inr (.inr h)
   |some t=>
    simp only
    obtain⟨htl,er⟩:=find_live hf
    by_cases hff:D.scanF<(t.pt.length:Int)
    ·rw[if_pos hff]
     have H1:=H.touch S (nth t.pt D.scanF.toNat)
     have hsc:(D.touch (nth t.pt D.scanF.toNat)).scan=D.scan∧(D.touch (nth t.pt D.scanF.toNat)).scanF=D.scanF:=by
      unfold Wd.touch
      split<;>exact⟨rfl,rfl⟩
     intro u hu h1 h2 i hi
     rcases H1 u hu h1 h2 i hi with h|h|h
     ·exact .inl h
     ·rw[hsc.1,hsc.2] at h
      by_cases e:(i:Int)=D.scanF
      ·refine .inr (.inr ?_)
       have hut:u.pt=t.pt:=by
        obtain⟨k,hk⟩:=touch_mark D.scan hf (nth t.pt D.scanF.toNat)
        have h3:=(S.touch (nth t.pt D.scanF.toNat)).findIt hu
        rw[h.1,hk] at h3
        rw[←Option.some.inj h3]
       have hit:i=D.scanF.toNat:=by omega
       rw[hut,hit]
       exact yB S hp _
      ·refine .inr (.inl ⟨?_,?_⟩)
       ·show _=(D.touch (nth t.pt D.scanF.toNat)).scan
        rw[hsc.1]
        exact h.1
       ·show D.scanF+1≤(i:Int)
        omega
     ·exact .inr (.inr h)
    ·rw[if_neg hff]
     intro u hu h1 h2 i hi
     rcases H u hu h1 h2 i hi with h|h|h
     ·exact .inl h
     ·have h3:=S.findIt hu
      rw[h.1,hf] at h3
      rw[←Option.some.inj h3] at hi
      omega
     ·exact .inr (.inr h)
theorem gu.IK(H:gu D)(h1:D.phase=2)(hb:D.floodB=false):∀u,u∈D.live→u.mr.dead=false→u.mr.color=D.parity→∀i,i<u.pt.length→wG D (nth u.pt i):=fun u hu k1 k2 i hi=>by
 unfold Wd.floodB at hb
 rw[decide_eq_true h1] at hb
 simp at hb
 rcases H u hu k1 k2 i hi with h|h|h
 ·rw[hb.1.2] at h
  cases h
 ·omega
 ·exact h
theorem gu.turn(h:∀t,t∈D.live→t.mr.color=0)(hp:D.parity=0):gu (D.turn.begin 1):=fun u hu h1 h2 i hi=>by
 have h3:=h u hu
 have h4:(D.turn.begin 1).parity=1:=by
  show 1-D.parity=1
  rw[hp]
  rfl
 rw[h3,h4] at h2
 cases h2
end
theorem PI:∀x:Nat,x<128→x ^^^ 16=if x/16%2=0 then x+16 else x-16:=by decide
theorem Mw{x:Int}(hx:bR x)(hk:aX x):bits .xor .u32 x 16=dx x (uC x) (uN x) (1-uS x) (uD x):=by
 obtain⟨hr,h128,h0⟩:=hx
 unfold bu at hr
 unfold aX at hk
 have hlt:x<128:=by
  have h1:uO x=0:=by omega
  unfold uO at h1
  omega
 obtain⟨X,rfl⟩:=Int.eq_ofNat_of_zero_le h0
 rw[u32_xor _ _ (by omega) (by omega) (by omega) (by omega),Int.toNat_natCast,show(16:Int).toNat=16 from rfl,PI X (by omega)]
 unfold dx bE uK uC uN uS uD uG
 split<;>omega
theorem Fz{r:Int}{t:Th}{g:Th→Th}:∀{l:List Th},aM r l=some t→g t=t→updL r g l=l
 |u::l,h,hg=>by
  unfold aM at h
  unfold updL
  cases hu:u.at r with
  |true=>
   rw[hu] at h
   simp at h
   subst h
   rw[if_pos rfl,hg]
  |false=>
   rw[hu] at h
   simp at h
   rw[if_neg (by simp),Fz h hg]
section
variable {c:Cf} {zs:List Int} {D:Wd} {t:Th} {r:Int}
theorem Gz(hf:D.find r=some t)(h:t.mr.shade=D.parity):D.settle r=D:=by
 have hs:D.shd r=t.mr.shadow:=by unfold Wd.shd;rw[hf];simp only;rw[if_pos h]
 have:updL r (fun t=>{t with mr:={t.mr with shade:=D.parity,shadow:=D.shd r}}) D.ts=D.ts:=Fz (t:=t) hf (by
  show({t with mr:={t.mr with shade:=D.parity,shadow:=D.shd r}}:Th)=t
  rw[hs,←h])
 show({D with ts:=updL r (fun t=>{t with mr:={t.mr with shade:=D.parity,shadow:=D.shd r}}) D.ts}:Wd)=D
 rw[this]
theorem sJ(hf:D.find r=some t):(D.settle r).find r=some {t with mr:={t.mr with shade:=D.parity,shadow:=D.shd r}}:=fQ _ hf
theorem Ea(hf:D.find r=some t):(D.settle r).shd r=D.shd r:=by
 show(match(D.settle r).find r with|none=>0|some t=>if t.mr.shade=D.parity then t.mr.shadow else 0)=_
 rw[sJ hf]
 simp
theorem DZ(hf:D.find r=some t):(D.settle r).cnt r=t.mr.refs:=by
 unfold Wd.cnt
 rw[sJ hf]
theorem GK(R:au c zs D)(hz:Wz c zs)(hf:D.find r=some t)(hs:t.mr.shade≠D.parity):
  au c ((zs.set (adr c t.h 0) (dx (nth zs (adr c t.h 0)) (uC (nth zs (adr c t.h 0))) (uN (nth zs (adr c t.h 0))) (1-uS (nth zs (adr c t.h 0))) (uD (nth zs (adr c t.h 0))))).set (adr c t.h 4) 0) (D.settle r):=by
 obtain⟨h1,h2,h3,h4,h5⟩:=R.fB hf
 have hp:=R.par
 have h01:=(bz (nth zs (adr c t.h 0))).2.2.1
 have e1:1-uS (nth zs (adr c t.h 0))=D.parity:=by
  have:=h5.cS
  omega
 have es:D.shd r=0:=by unfold Wd.shd;rw[hf];simp only;rw[if_neg hs]
 rw[e1]
 have R1:=rJ R hf hz (bz _).1 (bz _).2.1 R.par (.inl rfl) (fun m=>{m with shade:=D.parity}) (by simp only;rw[h5.cC,h5.cN,h5.xJ])
 have R2:=R1.iL hz.may (by simp;exact hz.len) (fQ _ hf) (v:=4) (.inr rfl) (x:=0) (f:=fun m=>{m with shadow:=0}) rfl
 rw[kJ] at R2
 unfold Wd.settle
 rw[es]
 exact R2
theorem Co(R:au c zs D)(hz:Wz c zs){b:Nat}{rest:List Nat}(hr:D.ring=b::rest):au c (aL c b zs) {D with ring:=rest}:=by
 obtain⟨u,hu,e⟩:=R.tQ hz.may (x:=b) (by rw[hr];exact List.mem_cons_self ..)
 have hf:=R.findIt hu
 have h:=vU R hz hf (by rw[hr,e];exact List.mem_cons_self ..)
 have hnd:=R.ring.nd
 rw[hr,List.nodup_cons] at hnd
 have e2:D.lessRing u.h={D with ring:=rest}:=by
  unfold Wd.lessRing
  congr 1
  rw[hr,e,List.filter_cons_of_neg (by simp)]
  exact List.filter_eq_self.2 (fun x hx=>by
   have:x≠b:=fun e3=>hnd.1 (by rw[←e3];exact hx)
   simpa using this)
 rw[e2,e] at h
 exact h
theorem au.zw(R:au c zs D)(hz:Wz c zs)(x:Int):au c (zs.set 14 x) {D with scan:=x}:=by
 refine R.jd hz.may hz.len (k:=14) (by omega) (by omega) rfl rfl rfl rfl rfl rfl rfl rfl (fun j h1 h2 h3=> ?_) R.par
 have:j=10∨j=11∨j=12∨j=13∨j=15∨j=16∨j=17∨j=18:=by omega
 rcases this with rfl|rfl|rfl|rfl|rfl|rfl|rfl|rfl<;>rfl
theorem au.BN(R:au c zs D)(hz:Wz c zs)(x:Int):au c (zs.set 15 x) {D with scanF:=x}:=by
 refine R.jd hz.may hz.len (k:=15) (by omega) (by omega) rfl rfl rfl rfl rfl rfl rfl rfl (fun j h1 h2 h3=> ?_) R.par
 have:j=10∨j=11∨j=12∨j=13∨j=14∨j=16∨j=17∨j=18:=by omega
 rcases this with rfl|rfl|rfl|rfl|rfl|rfl|rfl|rfl<;>rfl
theorem au.scans(R:au c zs D)(hz:Wz c zs):(0≤D.scan∧D.scan≤4294967295)∧0≤D.scanF∧D.scanF≤4294967295:=by
 have h1:=R.reg 14 (by omega) (by omega)
 have h2:=R.reg 15 (by omega) (by omega)
 have e1:D.reg 14=D.scan:=rfl
 have e2:D.reg 15=D.scanF:=rfl
 rw[e1] at h1
 rw[e2] at h2
 have b1:=hz.wf 14
 have b2:=hz.wf 15
 rw[←h1,←h2]
 exact⟨b1,b2⟩
end
structure bQ (D D':Wd):Prop where
 par:D'.parity=D.parity
 sc:D.scan=0→D'.scan=0
 sf:0≤D.scanF→0≤D'.scanF
 mem:∀s,s∈D'.live→(s.mr.color=D.parity∧s.mr.count=D.parity)∨∃v,v∈D.live∧s.h=v.h∧(s.mr.dead=false→v.mr.dead=false)∧(v.mr.color=D.parity→s.mr.color=D.parity)∧(v.mr.count=D.parity→s.mr.count=D.parity)
def CU(D:Wd):Prop:=∀u,u∈D.live→u.mr.count=D.parity
def VH(hold:Nat→Nat)(D:Wd):Prop:=∀u,u∈D.live→u.mr.dead=false→0<hold u.h→(u.h:Int)<D.cursor→u.mr.color=D.parity
section
variable {D D' D2:Wd} {t u v s:Th} {r x y:Int} {g:Th→Th} {E:Int→Prop} {hold hold':Nat→Nat}
theorem bQ.refl(D:Wd):bQ D D:=⟨rfl,fun h=>h,fun h=>h,fun s hs=>.inr ⟨s,hs,rfl,fun h=>h,fun h=>h,fun h=>h⟩⟩
theorem bQ.trans(h:bQ D D')(k:bQ D' D2):bQ D D2:=⟨k.par.trans h.par,fun e=>k.sc (h.sc e),fun e=>k.sf (h.sf e),fun s hs=>by
 rcases k.mem s hs with⟨a,b⟩|⟨v,hv,e1,e2,e3,e4⟩
 ·exact .inl ⟨a.trans h.par,b.trans h.par⟩
 ·rw[h.par] at e3 e4
  rcases h.mem v hv with⟨a,b⟩|⟨u,hu,f1,f2,f3,f4⟩
  ·exact .inl ⟨e3 a,e4 b⟩
  ·exact .inr ⟨u,hu,e1.trans f1,fun z=>f2 (e2 z),fun z=>e3 (f3 z),fun z=>e4 (f4 z)⟩⟩
theorem bQ.same(h:D'.ts=D.ts)(hp:D'.parity=D.parity)(hs:D'.scan=D.scan)(hf:D'.scanF=D.scanF):bQ D D':=by
 have hl:D'.live=D.live:=by unfold Wd.live;rw[h]
 refine⟨hp,fun e=>hs.trans e,fun e=>by rw[hf];exact e,fun s hs=> ?_⟩
 rw[hl] at hs
 exact .inr ⟨s,hs,rfl,fun h=>h,fun h=>h,fun h=>h⟩
theorem bQ.upd(S:San D)(hf:D.find r=some t)(hts:D'.ts=updL r g D.ts)(hp:D'.parity=D.parity)(hs:D.scan=0→D'.scan=0)(hsf:D'.scanF=D.scanF)(hh:(g t).h=t.h)(h1:(g t).mr.dead=false→t.mr.dead=false)(h2:t.mr.color=D.parity→(g t).mr.color=D.parity)(h3:t.mr.count=D.parity→(g t).mr.count=D.parity):bQ D D':=
 ⟨hp,hs,fun e=>by rw[hsf];exact e,fun s k=>by
  unfold Wd.live at k
  rw[hts] at k
  rcases aN S.nd hf k with rfl|⟨k,_⟩
  ·exact .inr ⟨t,(find_live hf).1,hh,h1,h2,h3⟩
  ·exact .inr ⟨s,k,rfl,fun h=>h,fun h=>h,fun h=>h⟩⟩
theorem bQ.mark(S:San D)(r:Int){f:Mrk→Mrk}(h1:∀m,(f m).dead=false→m.dead=false)(h2:∀m,m.color=D.parity→(f m).color=D.parity)(h3:∀m,m.count=D.parity→(f m).count=D.parity):bQ D (D.mark r f):=by
 cases hf:D.find r with
 |none=>rw[mark_none f hf];exact bQ.refl D
 |some t=>exact bQ.upd (g:=fun t=>{t with mr:=f t.mr}) S hf rfl rfl (fun h=>h) rfl rfl (h1 _) (h2 _) (h3 _)
theorem bQ.touch(S:San D)(r:Int):bQ D (D.touch r):=by
 unfold Wd.touch
 split
 ·exact(bQ.mark S r (f:=fun m=>{m with color:=D.parity}) (fun _ h=>h) (fun _ _=>rfl) (fun _ h=>h)).trans (bQ.same rfl rfl rfl rfl)
 ·exact bQ.refl D
theorem bQ.bury(S:San D)(x:Int):bQ D (D.bury x):=by
 unfold Wd.bury
 cases hf:D.find x with
 |none=>exact bQ.refl D
 |some t=>
  simp only
  split
  ·exact bQ.refl D
  ·exact bQ.upd (g:=fun s=>{s with mr:={s.mr with dead:=true,left:=(t.pt.length:Int),leaves:=(t.lv.length:Int)}}) S hf (gp x t) rfl (fun h=>by
    show(if D.scan=x then 0 else D.scan)=0
    split
    ·rfl
    ·exact h) rfl rfl (fun h=>by cases h) (fun h=>h) (fun h=>h)
theorem bQ.inter(S:San D)(x:Int):bQ D (D.inter x):=by
 unfold Wd.inter
 split
 ·exact bQ.bury S x
 ·exact bQ.refl D
theorem bQ.down(S:San D)(r:Int):bQ D (D.down r):=bQ.mark S r (f:=fun m=>{m with refs:=m.refs-1}) (fun _ h=>h) (fun _ h=>h) (fun _ h=>h)
theorem bQ.up(S:San D)(r:Int):bQ D (D.up r):=bQ.mark S r (f:=fun m=>{m with refs:=m.refs+1}) (fun _ h=>h) (fun _ h=>h) (fun _ h=>h)
theorem bQ.less(S:San D)(r:Int):bQ D (D.less r):=((bQ.down S r).trans (D2:=(D.down r).sus) (bQ.same rfl rfl rfl rfl)).trans (bQ.inter (D:=(D.down r).sus) (S.down r).sus r)
theorem bQ.more(S:San D)(r:Int):bQ D (D.more r):=(bQ.up S r).trans (bQ.touch (S.up r) r)
theorem bQ.setP(S:San D)(hf:D.find r=some t)(i:Nat)(x:Int):bQ D (D.setP r i x):=
 bQ.upd (g:=fun t=>{t with pt:=t.pt.set i x}) S hf rfl rfl (fun h=>h) rfl rfl (fun h=>h) (fun h=>h) (fun h=>h)
theorem bQ.lighten(S:San D)(x:Int):bQ D (D.lighten x):=by
 unfold Wd.lighten
 split
 ·exact bQ.mark S x (f:=fun m=>{m with shadow:=m.shadow-1}) (fun _ h=>h) (fun _ h=>h) (fun _ h=>h)
 ·exact bQ.refl D
theorem bQ.drain(S:San D)(hf:D.find r=some t)(i:Nat)(x:Int):bQ D (D.drain r i x):=by
 have S1:=S.setP hf i (x:=0) (fun _=>rfl)
 have key:∀D2:Wd,San D2→bQ D D2→bQ D ((D2.down x).inter x):=fun D2 S2 H2=>(H2.trans (bQ.down S2 x)).trans (bQ.inter (S2.down x) x)
 unfold Wd.drain
 by_cases hc:(D.setP r i 0).cnt x=0
 ·rw[if_pos hc]
  exact bQ.setP S hf i 0
 ·rw[if_neg hc]
  have K:San (if(D.setP r i 0).counted r i then(D.setP r i 0).lighten x else D.setP r i 0)∧bQ D (if(D.setP r i 0).counted r i then(D.setP r i 0).lighten x else D.setP r i 0):=by
   split
   ·exact⟨S1.lighten x,(bQ.setP S hf i 0).trans (bQ.lighten S1 x)⟩
   ·exact⟨S1,bQ.setP S hf i 0⟩
  exact key _ K.1 K.2
theorem bQ.step(S:San D):bQ D D.step:=by
 cases hg:D.grave with
 |nil=>rw[show D.step=D by unfold Wd.step;rw[hg]];exact bQ.refl D
 |cons q rest=>
  obtain⟨t,htl,e,hf,hd,d,es⟩:=S.head hg
  rw[es]
  unfold Wd.work
  split
  ·exact(bQ.drain S hf _ _).trans (bQ.mark (S.drain hf _ _) _ (fun _ h=>h) (fun _ h=>h) (fun _ h=>h))
  ·split
   ·exact bQ.upd (g:=fun s=>{s with lv:=s.lv.set (t.mr.leaves-1).toNat (-1),mr:={s.mr with leaves:=t.mr.leaves-1}}) S hf (fH _ _ _ _) rfl (fun h=>h) rfl rfl (fun h=>h) (fun h=>h) (fun h=>h)
   ·have hlive:({({D with grave:=rest}:Wd).fU (q:Int) t.h with pending:=D.pending-1}:Wd).live=D.live.filter (fun s=>s.h !=t.h):=bY (g:=fun s=>{s with ended:=true}) (fun _=>rfl) S.nd hf
    refine⟨rfl,fun h=>h,fun h=>h,fun s hs=> ?_⟩
    rw[hlive] at hs
    exact .inr ⟨s,(List.mem_filter.1 hs).1,rfl,fun h=>h,fun h=>h,fun h=>h⟩
theorem bQ.born{N:Nat}(S:San D)(B:BornOk D x y N):bQ D (D.born x y):=by
 unfold Wd.born
 by_cases hE:D.mkE x y=0
 ·rw[if_pos hE]
  have S1:=B.san S
  have eR:D.mkR x y=(D.mkB:Int)+1:=by unfold Wd.mkR;rw[if_pos hE]
  have eD:D.mkD x y=D.made D.mkB (D.clean.tail.take (D.mkN x y)) (D.clean.tail.drop (D.mkN x y)) x.toNat y.toNat:=by unfold Wd.mkD;rw[if_pos hE]
  have hlv:(D.mkD x y).live=D.live++[⟨D.mkB,ints (D.clean.tail.take (D.mkN x y)),zer x.toNat,zer y.toNat,false,Mrk.new⟩]:=by rw[eD,live_made]
  have hpar:(D.mkD x y).parity=D.parity∧(D.mkD x y).scan=D.scan∧(D.mkD x y).scanF=D.scanF:=by rw[eD];exact⟨rfl,rfl,rfl⟩
  have h1:bQ D ((D.mkD x y).dye (D.mkR x y)):=by
   refine⟨hpar.1,fun h=>hpar.2.1.trans h,fun h=>by show 0≤(D.mkD x y).scanF;rw[hpar.2.2];exact h,fun s hs=> ?_⟩
   obtain⟨v,hv,e1,e2,h⟩:=bv S1 hs
   rw[hlv] at hv
   rcases h with⟨k1,k2⟩|⟨k1,k2⟩
   ·rw[k2]
    exact .inl ⟨hpar.1,hpar.1⟩
   ·rcases List.mem_append.1 hv with h|h
    ·rw[k2]
     exact .inr ⟨v,h,e1,fun h=>h,fun h=>h,fun h=>h⟩
    ·obtain rfl:=List.mem_singleton.1 h
     exact absurd eR.symm k1
  have S2:San ((D.mkD x y).dye (D.mkR x y)):=S1.mark _ (fun _=>rfl) (fun _=>rfl) (fun _=>rfl)
  exact h1.trans (bQ.more S2 _)
 ·rw[if_neg hE]
  exact bQ.refl D
theorem bQ.put(S:San D)(hf:D.find r=some t)(hd:t.mr.dead=false)(i:Nat)(x y:Int):bQ D (D.put r i x y):=by
 have h1:San (D.putS r i x)∧bQ D (D.putS r i x):=by
  unfold Wd.putS
  by_cases hx0:x=0
  ·rw[if_pos hx0]
   exact⟨S.setP hf i (fun h=>by rw[hd] at h;cases h),bQ.setP S hf i x⟩
  ·rw[if_neg hx0]
   obtain⟨m,hf1,hm1⟩:=more_find r hf x
   have S1:=S.more x
   exact⟨S1.setP hf1 i (fun h=>by have h:m.dead=true:=h;rw[hm1,hd] at h;cases h),(bQ.more S x).trans (bQ.setP S1 hf1 i x)⟩
 unfold Wd.put Wd.putY
 split
 ·exact(h1.2.trans (bQ.touch h1.1 y)).trans (bQ.less (h1.1.touch y) y)
 ·exact h1.2
theorem CU.FZ(A:CU D)(h:bQ D D'):CU D':=fun u hu=>by
 rw[h.par]
 rcases h.mem u hu with⟨_,k⟩|⟨v,hv,_,_,_,k⟩
 ·exact k
 ·exact k (A v hv)
theorem VH.FZ(V:VH hold D)(h:bQ D D')(hc:D'.cursor=D.cursor)(hh:∀b,hold' b≤hold b):VH hold' D':=fun u hu h1 h2 h3=>by
 rw[h.par]
 rw[hc] at h3
 rcases h.mem u hu with⟨k,_⟩|⟨v,hv,e1,e2,e3,_⟩
 ·exact k
 ·rw[e1] at h2 h3
  exact e3 (V v hv (e2 h1) (Nat.lt_of_lt_of_le h2 (hh _)) h3)
theorem VH.more(V:VH hold D)(S:San D)(hp:D.phase≠0)(hh:∀h:Nat,hold' h=hold h+if(h:Int)+1=r then 1 else 0):VH hold' (D.more r):=fun u hu h1 h2 h3=>by
 by_cases e:(u.h:Int)+1=r
 ·exact(touched (D:=D.up r) (S.up r) hp u hu e h1).trans (more_sam (D:=D) r).1.symm
 ·have h:=bQ.more S r
  rw[h.par]
  rw[(more_sam (D:=D) r).2.1] at h3
  rw[hh,if_neg e] at h2
  rcases h.mem u hu with⟨k,_⟩|⟨v,hv,e1,e2,e3,_⟩
  ·exact k
  ·rw[e1] at h2 h3
   exact e3 (V v hv (e2 h1) h2 h3)
theorem VH.born{N:Nat}(V:VH hold D)(S:San D)(B:BornOk D x y N)(hE:D.mkE x y=0)(hp:D.phase≠0)(hh:∀h:Nat,hold' h=hold h+if h=D.mkB then 1 else 0):VH hold' (D.born x y):=fun u hu h1 h2 h3=>by
 have h:=bQ.born S B
 rw[h.par]
 rw[born_sam.2.1] at h3
 rcases h.mem u hu with⟨k,_⟩|⟨v,hv,e1,e2,e3,_⟩
 ·exact k
 ·have hne:=B.fresh hE v hv
  rw[hh,if_neg (by omega)] at h2
  rw[e1] at h2 h3
  exact e3 (V v hv (e2 h1) h2 h3)
theorem eG.cursor(H:eG E D)(A:CU D)(k:Int):eG E {D with cursor:=k}:=by
 refine⟨fun s hs h1 h2 h3=> ?_,fun s hs _=>A s hs⟩
 have e:sumL (({D with cursor:=k}:Wd).ph ((s.h:Int)+1)) D.ts=sumL (D.ph ((s.h:Int)+1)) D.ts:=bT (fun u hu=>by
  show iU D.parity k D.field _ u=iU D.parity D.cursor D.field _ u
  unfold iU nY
  rw[if_pos (A u hu),if_pos (A u hu)])
 show sv D.parity s.mr=((sumL (({D with cursor:=k}:Wd).ph ((s.h:Int)+1)) D.ts:Nat):Int)
 rw[e]
 exact H.sh s hs h1 h2 h3
theorem eG.settle(H:eG E D)(S:San D)(r:Int):eG E (D.settle r):=by
 unfold Wd.settle
 cases hf:D.find r with
 |none=>rw[mark_none _ hf];exact H
 |some t=>
  obtain⟨htl,er⟩:=find_live hf
  refine H.upd (E':=E) (g:=fun u=>{u with mr:={u.mr with shade:=D.parity,shadow:=D.shd r}}) S hf rfl ⟨rfl,rfl,rfl,rfl⟩ (find_at hf).2.1 rfl (fun q _ _=>oL rfl) (fun h=>h) (fun h1 h2 h3=>⟨h1,h2,h3,?_⟩) (fun _ h=>h)
  have:=vJ S htl
  rw[er] at this
  unfold sv at this ⊢
  rw[if_pos rfl]
  exact this
theorem eG.lookT(H:eG E D)(S:San D)(r:Int)(o:Option Th):eG E (D.lookT r o):=by
 unfold Wd.lookT
 split
 ·exact H
 ·split
  ·exact H
  ·split
   ·exact(H.settle S r).touch (S.settle r) r
   ·exact H.settle S r
theorem bQ.settle(S:San D)(r:Int):bQ D (D.settle r):=bQ.mark S r (f:=fun m=>{m with shade:=D.parity,shadow:=D.shd r}) (fun _ h=>h) (fun _ h=>h) (fun _ h=>h)
theorem bQ.lookT(S:San D)(r:Int)(o:Option Th):bQ D (D.lookT r o):=by
 unfold Wd.lookT
 split
 ·exact bQ.refl D
 ·split
  ·exact bQ.refl D
  ·split
   ·exact(bQ.settle S r).trans (bQ.touch (S.settle r) r)
   ·exact bQ.settle S r
theorem qY(r:Int)(o:Option Th):Sam D (D.lookT r o):=by
 unfold Wd.lookT
 split
 ·exact Sam.refl D
 ·split
  ·exact Sam.refl D
  ·split
   ·exact Sam.trans (D':=D.settle r) ⟨rfl,rfl,rfl,rfl⟩ (dY r)
   ·exact⟨rfl,rfl,rfl,rfl⟩
structure FL (hold:Nat→Nat) (D:Wd):Prop where
 ho:eG (fun _=>False) D
 tri:gu D
 al:CU D
 vh:VH hold D
 sf:0≤D.scanF
theorem FL.flood(F:FL hold D)(S:San D)(N:Nam hold D)(hk:0≤D.cursor):FL hold D.flood:=by
 have ht:=F.tri.flood S F.sf
 unfold Wd.flood at ht ⊢
 cases hb:D.floodB with
 |false=>rw[if_neg (by decide)];exact F
 |true=>
  rw[hb,if_pos rfl] at ht
  rw[if_pos rfl]
  have hp:D.phase=2:=by
   unfold Wd.floodB at hb
   simp at hb
   exact hb.1
  by_cases hs:D.scan=0
  ·rw[if_pos hs] at ht ⊢
   cases hr:D.ring with
   |cons b rest=>
    rw[hr] at ht
    exact⟨F.ho.same rfl ⟨rfl,rfl,rfl,rfl⟩,ht,F.al,F.vh,by show(0:Int)≤0;decide⟩
   |nil=>
    rw[hr] at ht
    have hA:=F.al.FZ (bQ.lookT S (D.cursor+1) (D.find (D.cursor+1)))
    have hH:=(F.ho.lookT S (D.cursor+1) (D.find (D.cursor+1))).cursor hA (D.cursor+1)
    refine⟨hH,ht,hA,?_,(bQ.lookT S _ _).sf F.sf⟩
    intro u hu h1 h2 h3
    have h3:(u.h:Int)<D.cursor+1:=h3
    have hu:u∈(D.lookT (D.cursor+1) (D.find (D.cursor+1))).live:=hu
    show u.mr.color=(D.lookT (D.cursor+1) (D.find (D.cursor+1))).parity
    rw[(bQ.lookT S (D.cursor+1) (D.find (D.cursor+1))).par]
    by_cases e:(u.h:Int)=D.cursor
    ·cases hf:D.find (D.cursor+1) with
     |none=>
      exfalso
      rw[hf] at hu
      have hu:u∈D.live:=hu
      have:=S.findIt hu
      rw[e,hf] at this
      cases this
     |some t=>
      obtain⟨htl,er⟩:=find_live hf
      rw[hf] at hu
      unfold Wd.lookT at hu
      simp only at hu
      by_cases hd:t.mr.dead=true
      ·exfalso
       rw[if_pos hd] at hu
       have e9:u=t:=S.rM htl hu (by omega)
       rw[←e9,h1] at hd
       cases hd
      ·rw[if_neg hd] at hu
       have hsum:sumL (D.ph ((t.h:Int)+1)) D.ts=sumL (dP ((t.h:Int)+1)) D.ts:=bT (fun v hv=>by
        show iU D.parity D.cursor D.field _ v=_
        unfold iU nY dP
        rw[if_pos (F.al v hv),List.take_length])
       have hcnt:=N.cnt t htl
       have hut:u.h=t.h:=by omega
       rw[hut] at h2
       by_cases hcl:t.mr.color=D.parity
       ·have h9:=(bQ.lookT S (D.cursor+1) (some t)).mem u (by unfold Wd.lookT;simp only;rw[if_neg hd];exact hu)
        rcases h9 with⟨k,_⟩|⟨v,hv,e1,_,e3,_⟩
        ·exact k
        ·exact e3 (by rw[S.rM htl hv (by omega)];exact hcl)
       ·have hsv:=F.ho.sh t htl (fun h=>h) (by cases h:t.mr.dead;rfl;exact absurd h hd) hcl
        have hsh:=vJ S htl
        rw[er] at hsh
        have hlt:D.shd (D.cursor+1)<t.mr.refs:=by
         rw[hsh,hsv,hsum,hcnt]
         omega
        rw[if_pos hlt] at hu
        have h9:=touched (D:=D.settle (D.cursor+1)) (S.settle _) (by show D.phase≠0;omega) u hu (by omega) h1
        exact h9
    ·rcases (bQ.lookT S (D.cursor+1) (D.find (D.cursor+1))).mem u hu with⟨k,_⟩|⟨v,hv,e1,e2,e3,_⟩
     ·exact k
     ·exact e3 (F.vh v hv (e2 h1) (by rw[←e1];exact h2) (by omega))
  ·rw[if_neg hs] at ht ⊢
   unfold Wd.scanAt at ht ⊢
   cases hf:D.find D.scan with
   |none=>
    rw[hf] at ht
    simp only at ht ⊢
    exact⟨F.ho.same rfl ⟨rfl,rfl,rfl,rfl⟩,ht,F.al,F.vh,F.sf⟩
   |some t=>
    rw[hf] at ht
    simp only at ht ⊢
    by_cases hff:D.scanF<(t.pt.length:Int)
    ·rw[if_pos hff] at ht ⊢
     have hw:=bQ.touch S (nth t.pt D.scanF.toNat)
     exact⟨(F.ho.touch S _).same rfl ⟨rfl,rfl,rfl,rfl⟩,ht,(show CU (D.touch (nth t.pt D.scanF.toNat)) from F.al.FZ hw),VH.FZ (D':={D.touch (nth t.pt D.scanF.toNat) with scanF:=D.scanF+1}) (F.vh.FZ hw (dY _).2.1 (fun _=>Nat.le_refl _)) ⟨rfl,fun h=>h,fun h=>by show 0≤D.scanF+1;have:=F.sf;omega,fun s hs=>.inr ⟨s,hs,rfl,fun h=>h,fun h=>h,fun h=>h⟩⟩ rfl (fun _=>Nat.le_refl _),by show 0≤D.scanF+1;have:=F.sf;omega⟩
    ·rw[if_neg hff] at ht ⊢
     exact⟨F.ho.same rfl ⟨rfl,rfl,rfl,rfl⟩,ht,F.al,F.vh,F.sf⟩
theorem flood_phase:D.flood.phase=D.phase∧D.flood.parity=D.parity∧D.flood.field=D.field:=by
 unfold Wd.flood
 split
 ·split
  ·split
   ·exact⟨rfl,rfl,rfl⟩
   ·exact⟨(qY _ _).2.2.2,(qY _ _).1,(qY _ _).2.2.1⟩
  ·unfold Wd.scanAt
   split
   ·exact⟨rfl,rfl,rfl⟩
   ·split
    ·exact⟨(dY _).2.2.2,(dY _).1,(dY _).2.2.1⟩
    ·exact⟨rfl,rfl,rfl⟩
 ·exact⟨rfl,rfl,rfl⟩
def iZ(D:Wd):Prop:=Dyed D∧∀t,t∈D.ts→t.mr.color=0
inductive FM (hold:Nat→Nat) (D:Wd):Prop where
 |idle:D.phase=0→iZ D→FM hold D
 |cnt:D.phase=1→eG (fun _=>False) D→gu D→D.scan=0→FM hold D
 |fl:D.phase=2→FL hold D→FM hold D
theorem FL.FZ(F:FL hold D)(h1:eG (fun _=>False) D')(h2:gu D')(h:bQ D D')(hc:D'.cursor=D.cursor)(hh:∀b,hold' b≤hold b):FL hold' D':=⟨h1,h2,F.al.FZ h,F.vh.FZ h hc hh,h.sf F.sf⟩
theorem iZ.touch(h:iZ D)(r:Int):iZ (D.touch r):=by
 refine⟨h.1.touch r,?_⟩
 rcases gI (D:=D) r with k|k
 ·rw[k]
  exact h.2
 ·rw[k]
  exact iA (P:=fun t=>t.mr.color=0) (g:=fun t=>{t with mr:={t.mr with color:=D.parity}}) (fun t _=>h.1.1) r h.2
theorem iZ.upd(h:iZ D)(hd:Dyed D')(k:D'.ts=updL r g D.ts)(hg:∀t,(g t).mr.color=t.mr.color):iZ D':=⟨hd,by rw[k];exact iA (P:=fun t=>t.mr.color=0) (fun t ht=>by rw[hg];exact ht) r h.2⟩
theorem iZ.bury(h:iZ D)(x:Int):iZ (D.bury x):=by
 have hd:=h.1.bury x
 unfold Wd.bury at hd ⊢
 split
 ·exact h
 ·rename_i t hf
  rw[hf] at hd
  simp only at hd
  split
  ·exact h
  ·rename_i hn
   rw[if_neg hn] at hd
   exact h.upd (g:=fun s=>{s with mr:={s.mr with dead:=true,left:=(t.pt.length:Int),leaves:=(t.lv.length:Int)}}) hd (gp x _) (fun _=>rfl)
theorem iZ.inter(h:iZ D)(x:Int):iZ (D.inter x):=by
 unfold Wd.inter
 split
 ·exact h.bury x
 ·exact h
theorem iZ.up(h:iZ D)(x:Int):iZ (D.up x):=h.upd (r:=x) (g:=fun t=>{t with mr:={t.mr with refs:=t.mr.refs+1}}) (h.1.mark x (f:=fun m=>{m with refs:=m.refs+1}) (fun m hm=>hm)) rfl (fun _=>rfl)
theorem iZ.down(h:iZ D)(x:Int):iZ (D.down x):=h.upd (r:=x) (g:=fun t=>{t with mr:={t.mr with refs:=t.mr.refs-1}}) (h.1.mark x (f:=fun m=>{m with refs:=m.refs-1}) (fun m hm=>hm)) rfl (fun _=>rfl)
theorem iZ.more(h:iZ D)(x:Int):iZ (D.more x):=(h.up x).touch x
theorem iZ.less(h:iZ D)(x:Int):iZ (D.less x):=iZ.inter (D:=(D.down x).sus) ⟨(h.down x).1.same rfl rfl,(h.down x).2⟩ x
theorem iZ.setP(h:iZ D)(r:Int)(i:Nat)(x:Int):iZ (D.setP r i x):=h.upd (g:=fun t=>{t with pt:=t.pt.set i x}) (h.1.setP r i x) rfl (fun _=>rfl)
theorem iZ.put(h:iZ D)(r:Int)(i:Nat)(x y:Int):iZ (D.put r i x y):=by
 have h1:iZ (D.putS r i x):=by
  unfold Wd.putS
  split
  ·exact h.setP r i x
  ·exact(h.more x).setP r i x
 unfold Wd.put Wd.putY
 split
 ·exact(h1.touch y).less y
 ·exact h1
theorem iZ.mkD(h:iZ D)(x y:Int):iZ (D.mkD x y):=by
 refine⟨h.1.mkD x y,?_⟩
 unfold Wd.mkD
 by_cases hE:D.mkE x y=0
 ·rw[if_pos hE]
  intro t ht
  rcases List.mem_append.1 (show t∈D.ts++[_] from ht) with ht|ht
  ·exact h.2 t ht
  ·obtain rfl:=List.mem_singleton.1 ht
   rfl
 ·rw[if_neg hE]
  exact h.2
theorem iZ.dye(h:iZ D)(r:Int):iZ (D.dye r):=⟨h.1.dye r,iA (P:=fun t=>t.mr.color=0) (g:=fun t=>{t with mr:={t.mr with color:=D.parity,count:=D.parity,shade:=D.parity,shadow:=0}}) (fun t _=>h.1.1) r h.2⟩
theorem iZ.born(h:iZ D)(x y:Int):iZ (D.born x y):=by
 unfold Wd.born
 split
 ·exact((h.mkD x y).dye _).more _
 ·exact h
theorem iZ.drain(h:iZ D)(r:Int)(i:Nat)(x:Int):iZ (D.drain r i x):=by
 have key:∀D2:Wd,iZ D2→iZ ((D2.down x).inter x):=fun D2 h=>(h.down x).inter x
 unfold Wd.drain
 by_cases hc:(D.setP r i 0).cnt x=0
 ·rw[if_pos hc]
  exact h.setP r i 0
 ·rw[if_neg hc]
  refine key _ ?_
  split
  ·unfold Wd.lighten
   split
   ·exact(h.setP r i 0).upd (r:=x) (g:=fun t=>{t with mr:={t.mr with shadow:=t.mr.shadow-1}}) ((h.setP r i 0).1.mark x (f:=fun m=>{m with shadow:=m.shadow-1}) (fun m hm=>hm)) rfl (fun _=>rfl)
   ·exact h.setP r i 0
  ·exact h.setP r i 0
theorem iZ.step(h:iZ D):iZ D.step:=by
 have hd:=h.1.step
 unfold Wd.step at hd ⊢
 split
 ·exact h
 ·rename_i q rest hg
  rw[hg] at hd
  simp only at hd
  split
  ·exact h
  ·rename_i t hf
   rw[hf] at hd
   simp only at hd
   unfold Wd.work at hd ⊢
   split
   ·rename_i ha
    rw[if_pos ha] at hd
    exact(h.drain _ _ _).upd (g:=fun u=>{u with mr:={u.mr with left:=t.mr.left-1}}) hd rfl (fun _=>rfl)
   ·rename_i ha
    rw[if_neg ha] at hd
    split
    ·rename_i hl
     rw[if_pos hl] at hd
     exact h.upd hd (fH _ _ _ _) (fun _=>rfl)
    ·rename_i hl
     rw[if_neg hl] at hd
     exact h.upd (g:=fun s=>{s with ended:=true}) hd rfl (fun _=>rfl)
theorem FM.less(T:FM hold D)(S:San D)(r:Int)(hh:∀b,hold' b≤hold b):FM hold' (D.less r):=by
 rcases T with⟨h,k⟩|⟨h,k,k2,k3⟩|⟨h,F⟩
 ·exact .idle ((less_sam r).2.2.2.trans h) (k.less r)
 ·exact .cnt ((less_sam r).2.2.2.trans h) (k.less S r) (k2.less S r) ((bQ.less S r).sc k3)
 ·exact .fl ((less_sam r).2.2.2.trans h) (F.FZ (F.ho.less S r) (F.tri.less S r) (bQ.less S r) (less_sam r).2.1 hh)
theorem FM.more(T:FM hold D)(S:San D)(hh:∀h:Nat,hold' h=hold h+if(h:Int)+1=r then 1 else 0):FM hold' (D.more r):=by
 rcases T with⟨h,k⟩|⟨h,k,k2,k3⟩|⟨h,F⟩
 ·exact .idle ((more_sam r).2.2.2.trans h) (k.more r)
 ·exact .cnt ((more_sam r).2.2.2.trans h) (k.more S r) (k2.more S r) ((bQ.more S r).sc k3)
 ·exact .fl ((more_sam r).2.2.2.trans h) ⟨F.ho.more S r,F.tri.more S r,F.al.FZ (bQ.more S r),F.vh.more S (by omega) hh,(bQ.more S r).sf F.sf⟩
theorem FM.put(T:FM hold D)(S:San D)(N:Nam hold D)(hf:D.find r=some t)(hd:t.mr.dead=false){i:Nat}(hi:i<t.pt.length):FM hold (D.put r i x (nth t.pt i)):=by
 rcases T with⟨h,k⟩|⟨h,k,k2,k3⟩|⟨h,F⟩
 ·exact .idle ((put_sam _ _ _ _).2.2.2.trans h) (k.put _ _ _ _)
 ·exact .cnt ((put_sam _ _ _ _).2.2.2.trans h) (k.put S N (by omega) hf hd hi) (k2.put S (by omega) hf hd hi) ((bQ.put S hf hd i x _).sc k3)
 ·exact .fl ((put_sam _ _ _ _).2.2.2.trans h) (F.FZ (F.ho.put S N (by omega) hf hd hi) (F.tri.put S (by omega) hf hd hi) (bQ.put S hf hd i x _) (put_sam _ _ _ _).2.1 (fun _=>Nat.le_refl _))
theorem FM.born{N:Nat}(T:FM hold D)(S:San D)(B:BornOk D x y N)(hE:D.mkE x y=0)(hh:∀h:Nat,hold' h=hold h+if h=D.mkB then 1 else 0):FM hold' (D.born x y):=by
 rcases T with⟨h,k⟩|⟨h,k,k2,k3⟩|⟨h,F⟩
 ·exact .idle (born_sam.2.2.2.trans h) (k.born x y)
 ·exact .cnt (born_sam.2.2.2.trans h) (k.born S B) (k2.born S B) ((bQ.born S B).sc k3)
 ·exact .fl (born_sam.2.2.2.trans h) ⟨F.ho.born S B,F.tri.born S B,F.al.FZ (bQ.born S B),F.vh.born S B hE (by omega) hh,(bQ.born S B).sf F.sf⟩
theorem FM.step(T:FM hold D)(S:San D)(N:Nam hold D)(hF:0≤D.field):FM hold D.step:=by
 rcases T with⟨h,k⟩|⟨h,k,k2,k3⟩|⟨h,F⟩
 ·exact .idle (step_sam.2.2.2.trans h) k.step
 ·exact .cnt (step_sam.2.2.2.trans h) (k.step S N (.inl h) hF) (k2.step S) ((bQ.step S).sc k3)
 ·exact .fl (step_sam.2.2.2.trans h) (F.FZ (F.ho.step S N (.inr ⟨h,F.al⟩) hF) (F.tri.step S) (bQ.step S) step_sam.2.1 (fun _=>Nat.le_refl _))
theorem vQ:D.tally.scan=D.scan:=by
 unfold Wd.tally
 split
 ·unfold Wd.tallyAt
  split
  ·rfl
  ·split
   ·rfl
   ·split<;>rfl
 ·rfl
theorem FM.tally(T:FM hold D)(S:San D)(hF:0≤D.field):FM hold D.tally:=by
 rcases T with⟨h,k⟩|⟨h,k,k2,k3⟩|⟨h,F⟩
 ·rw[tally_idle (vP (by omega))]
  exact .idle h k
 ·exact .cnt (tally_phase.1.trans h) (k.tally S hF) (k2.tally S) (vQ.trans k3)
 ·rw[tally_idle (vP (by omega))]
  exact .fl h F
theorem flood_idle(h:D.floodB=false):D.flood=D:=by unfold Wd.flood;rw[h];rfl
theorem uB(h:D.phase≠2):D.floodB=false:=by unfold Wd.floodB;rw[decide_eq_false h];rfl
theorem FM.flood(T:FM hold D)(S:San D)(N:Nam hold D)(hk:0≤D.cursor):FM hold D.flood:=by
 rcases T with⟨h,k⟩|⟨h,k,k2,k3⟩|⟨h,F⟩
 ·rw[flood_idle (uB (by omega))]
  exact .idle h k
 ·rw[flood_idle (uB (by omega))]
  exact .cnt h k k2 k3
 ·exact .fl (flood_phase.1.trans h) (F.flood S N hk)
theorem FM.begin1(T:FM hold D)(h0:D.phase=0):FM hold (D.turn.begin 1):=by
 rcases T with⟨h,k⟩|⟨h,_⟩|⟨h,_⟩
 ·rcases TM.begin_ (.inl ⟨h,k.1⟩) h0 with⟨h,_⟩|⟨_,H⟩
  ·cases h
  ·exact .cnt rfl H (gu.turn (fun t ht=>k.2 t (bZ.1 ht).1) k.1.1) rfl
 ·omega
 ·omega
theorem FM.begin2{N:Nat}(T:FM hold D)(h0:D.phase=1)(hn:D.n=N)(hb:D.tallyB=false)(hlt:∀t,t∈D.live→t.h<N):FM hold (D.begin 2):=by
 rcases T with⟨h,k⟩|⟨h,k,k2,k3⟩|⟨h,F⟩
 ·omega
 ·have hcu:(D.n:Int)≤D.cursor:=by
   unfold Wd.tallyB at hb
   rw[decide_eq_true h0] at hb
   simp at hb
   exact hb
  have A:CU D:=fun u hu=>k.ct u hu (by have:=hlt u hu;omega)
  refine .fl rfl ⟨⟨fun s hs h1 h2 h3=> ?_,fun s hs _=>A s hs⟩,fun u hu h1 h2 i hi=> ?_,A,fun u hu _ _ h3=> ?_,by show(0:Int)≤0;decide⟩
  ·have e:sumL ((D.begin 2).ph ((s.h:Int)+1)) D.ts=sumL (D.ph ((s.h:Int)+1)) D.ts:=bT (fun u hu=>by
    show iU D.parity 0 0 _ u=iU D.parity D.cursor D.field _ u
    unfold iU nY
    rw[if_pos (A u hu),if_pos (A u hu)])
   show sv D.parity s.mr=((sumL ((D.begin 2).ph ((s.h:Int)+1)) D.ts:Nat):Int)
   rw[e]
   exact k.sh s hs h1 h2 h3
  ·rcases k2 u hu h1 h2 i hi with h|h|h
   ·exact .inl h
   ·omega
   ·exact .inr (.inr h)
  ·have h3:(u.h:Int)<0:=h3
   omega
 ·omega
theorem FM.IK{N:Nat}(T:FM hold D)(h1:D.phase=2)(hn:D.n=N)(hb:D.floodB=false)(hlt:∀t,t∈D.live→t.h<N):
  (∀u,u∈D.live→u.mr.dead=false→0<hold u.h→u.mr.color=D.parity)∧∀u,u∈D.live→u.mr.dead=false→u.mr.color=D.parity→∀i,i<u.pt.length→wG D (nth u.pt i):=by
 rcases T with⟨h,k⟩|⟨h,k,k2,k3⟩|⟨h,F⟩
 ·omega
 ·omega
 ·refine⟨fun u hu k1 k2=>F.vh u hu k1 k2 ?_,F.tri.IK h1 hb⟩
  unfold Wd.floodB at hb
  rw[decide_eq_true h1] at hb
  simp at hb
  have:=hlt u hu
  omega
end
section
variable {c:Cf} {zs:List Int} {D:Wd} {t:Th} {r:Int}
theorem Gj(hf:D.find r=some t):Does c D 106 [.int .i64 r] 4 (D.settle r) (.tuple #[]):=fun zs hz R=>by
 obtain⟨h1,h2,h3,h4,h5⟩:=R.fB hf
 obtain⟨htl,er⟩:=find_live hf
 have hlt:=R.hlt htl
 have hwf:=hz.wf (adr c t.h 0)
 have C1:Run c 38 [] zs 1 zs (.int .i64 D.parity):=fun p m w hG=>aY hG _ (R.reg 10 (by omega) (by omega))
 subst er
 by_cases hs:t.mr.shade=D.parity
 ·rw[Gz hf hs]
  exact⟨zs,⟨2,by omega,uw hlt hz.may rfl hwf.1 hwf.2 (by rw[h5.cS];exact hs) C1⟩,R⟩
 ·have ok:=lI h1 h2 (bz (nth zs (adr c t.h 0))).1 (bz (nth zs (adr c t.h 0))).2.1 (show 1-uS (nth zs (adr c t.h 0))=0∨1-uS (nth zs (adr c t.h 0))=1 by have:=(bz (nth zs (adr c t.h 0))).2.2.1;omega) (bz (nth zs (adr c t.h 0))).2.2.2
  obtain⟨_,_,_,_,_,_,_,y0,y1⟩:=ok
  exact⟨_,⟨4,by omega,wK hlt hz.may rfl hwf.1 hwf.2 (by rw[h5.cS];exact hs) (Mw h1 h2) y0 y1 C1⟩,GK R hz hf hs⟩
theorem Dn(h:D.scan=0):Does c D 46 [] 1 D (.bool false):=fun zs hz R=>
 ⟨zs,⟨1,by omega,Dh ((R.reg 14 (by omega) (by omega)).trans h)⟩,R⟩
theorem Li(S:San D)(h:D.scan≠0):Does c D 46 [] 44 (D.scanAt (D.find D.scan)) (.bool true):=fun zs hz R=>by
 have h14:nth zs 14=D.scan:=R.reg 14 (by omega) (by omega)
 have h15:nth zs 15=D.scanF:=R.reg 15 (by omega) (by omega)
 obtain⟨⟨s0,s1⟩,f0,f1⟩:=R.scans hz
 have h64:In64 D.scan:=by constructor<;>omega
 have hob:=obAt_find R D.scan
 cases hf:D.find D.scan with
 |none=>
  rw[hf] at hob
  obtain⟨d1,hd1,C1⟩:=objFns.pM c zs D.clean D.obs D.scan hz R.heap h64 hob
  exact⟨_,⟨1+1+d1+1,by omega,rY h14 h h15 f0 C1⟩,R.zw hz 0⟩
 |some t=>
  rw[hf] at hob
  obtain⟨d1,hd1,C1⟩:=objFns.ig c zs D.clean D.obs D.scan t.ob hz R.heap hob
  unfold Wd.scanAt
  simp only
  by_cases hff:D.scanF<(t.pt.length:Int)
  ·rw[if_pos hff]
   obtain⟨j,hj⟩:=Int.eq_ofNat_of_zero_le f0
   have hjl:j<t.pt.length:=by omega
   have hjn:D.scanF.toNat=j:=by omega
   have hsz:=(R.szt hz.may S (find_live hf).1).small
   obtain⟨x64,e,d2,hd2,C2⟩:=EJ S hz R hf hjl
   obtain⟨zs3,⟨d3,hd3,C3⟩,R3,hz3⟩:=(tintFns.touch c D (nth t.pt j) x64).at hz R
   rw[hjn]
   rw[hj] at h15 ⊢
   exact⟨_,⟨1+1+d1+d2+d3+1,by omega,KT h14 h h15 (by omega) (by omega) (show(j:Int)<(t.ob.np:Int) by show(j:Int)<(t.pt.length:Int);omega) C1 C2 C3⟩,R3.BN hz3 _⟩
  ·rw[if_neg hff]
   exact⟨_,⟨1+1+d1+1,by omega,rY h14 h h15 (show(t.ob.np:Int)≤D.scanF by show(t.pt.length:Int)≤D.scanF;omega) C1⟩,R.zw hz 0⟩
theorem yX(h:D.ring=[]):Does c D 47 [] 26 D (.bool false):=fun zs hz R=>by
 have hr:=R.ring
 rw[h] at hr
 obtain⟨d1,hd1,C1⟩:=zu.take_no c zs hz hr
 exact⟨zs,⟨d1,by omega,yL C1⟩,R⟩
theorem Gh{b:Nat}{rest:List Nat}(h:D.ring=b::rest):Does c D 47 [] 26 {D with ring:=rest,scan:=(b:Int)+1,scanF:=0} (.bool true):=fun zs hz R=>by
 have hr:=R.ring
 rw[h] at hr
 have A:=zu.take_yes c zs rest b hz hr
 have hz1:=A.wz hz
 obtain⟨d1,hd1,C1⟩:=A
 have hb:b<c.N:=hr.lt b (List.mem_cons_self ..)
 have hmn:=hz.may.n
 have R1:=Co R hz h
 have R2:=R1.zw hz1 ((b:Int)+1)
 have R3:=R2.BN (hz1.set 14 (by omega) (by omega)) 0
 exact⟨_,⟨d1+1+1,by omega,FX (by omega) C1⟩,R3⟩
theorem Jq{D':Wd}(h:D'.field=D.field)(k:Int):D'.move k D.field={D' with cursor:=k}:=by
 unfold Wd.move
 rw[←h]
theorem Lh(S:San D)(h:D.cursor<(D.n:Int)):Does c D 48 [] 42 D.lookAt (.bool true):=fun zs hz R=>by
 have hm:=hz.may
 have hmn:=hm.n
 have hN:=R.n
 obtain⟨⟨k0,k1⟩,f0,f1⟩:=R.curs hz
 have hk':D.cursor<(c.N:Int):=by rw[←hN];exact h
 have hr:In64 (D.cursor+1):=by constructor<;>omega
 obtain⟨zs1,⟨d1,hd1,C1⟩,R1,hz1⟩:=(tintFns.at_ c D).at hz R
 obtain⟨zs2,⟨d2,hd2,C2⟩,R2,hz2⟩:=(gd_is (c:=c) (D:=D) hr).at hz1 R1
 have hfin:∀D':Wd,D'.field=D.field→Does c D' 43 [.int .i64 (D.cursor+1),.int .i64 D.field] 2 {D' with cursor:=D.cursor+1} (.bool true):=fun D' hD=>by
  have:=pK (c:=c) (D:=D') (x:=D.cursor+1) (y:=D.field) (by omega) (by omega) f0 f1
  rwa[Jq hD] at this
 unfold Wd.lookAt
 cases hf:D.find (D.cursor+1) with
 |none=>
  rw[hf] at C2
  obtain⟨zs3,⟨d3,hd3,C3⟩,R3,hz3⟩:=(hfin D rfl).at hz2 R2
  exact⟨zs3,⟨d1+d2+d3,by omega,yN k0 hk' hm C1 C2 C3⟩,R3⟩
 |some t=>
  rw[hf] at C2
  obtain⟨zs3,⟨d3,hd3,C3⟩,R3,hz3⟩:=(tintFns.dead c D (D.cursor+1) hr).at hz2 R2
  have hdd:D.dead (D.cursor+1)=t.mr.dead:=by unfold Wd.dead;rw[hf]
  rw[hdd] at C3
  unfold Wd.lookT
  simp only
  by_cases hd:t.mr.dead=true
  ·rw[hd] at C3
   rw[if_pos hd]
   obtain⟨zs4,⟨d4,hd4,C4⟩,R4,hz4⟩:=(hfin D rfl).at hz3 R3
   exact⟨zs4,⟨d1+d2+d3+d4,by omega,yM k0 hk' hm C1 C2 C3 C4⟩,R4⟩
  ·have hdf:t.mr.dead=false:=by cases h:t.mr.dead;rfl;exact absurd h hd
   rw[hdf] at C3
   rw[if_neg hd]
   obtain⟨zs4,⟨d4,hd4,C4⟩,R4,hz4⟩:=(Gj (c:=c) hf).at hz3 R3
   obtain⟨zs5,⟨d5,hd5,C5⟩,R5,hz5⟩:=(Di (c:=c) (D:=D.settle (D.cursor+1)) hr).at hz4 R4
   obtain⟨zs6,⟨d6,hd6,C6⟩,R6,hz6⟩:=(tintFns.shadow c (D.settle (D.cursor+1)) (D.cursor+1) hr).at hz5 R5
   rw[DZ hf] at C5
   rw[Ea hf] at C6
   by_cases hlt:D.shd (D.cursor+1)<t.mr.refs
   ·rw[if_pos hlt]
    obtain⟨zs7,⟨d7,hd7,C7⟩,R7,hz7⟩:=(tintFns.touch c (D.settle (D.cursor+1)) (D.cursor+1) hr).at hz6 R6
    obtain⟨zs8,⟨d8,hd8,C8⟩,R8,hz8⟩:=(hfin ((D.settle (D.cursor+1)).touch (D.cursor+1)) (dY (D:=D.settle (D.cursor+1)) _).2.2.1).at hz7 R7
    exact⟨zs8,⟨d1+d2+d3+d4+d5+d6+d7+d8,by omega,Df k0 hk' hm hlt C1 C2 C3 C4 C5 C6 C7 C8⟩,R8⟩
   ·rw[if_neg hlt]
    obtain⟨zs7,⟨d7,hd7,C7⟩,R7,hz7⟩:=(hfin (D.settle (D.cursor+1)) rfl).at hz6 R6
    exact⟨zs7,⟨d1+d2+d3+d4+d5+d6+d7,by omega,Ay k0 hk' hm (by omega) C1 C2 C3 C4 C5 C6 C7⟩,R7⟩
theorem Dm(h:¬D.cursor<(D.n:Int)):Does c D 48 [] 42 D (.bool false):=fun zs hz R=>by
 have hN:=R.n
 obtain⟨zs1,⟨d1,hd1,C1⟩,R1,hz1⟩:=(tintFns.at_ c D).at hz R
 exact⟨zs1,⟨d1,by omega,Aw (by rw[←hN];omega) C1⟩,R1⟩
theorem ld_flood(S:San D):Does c D 13 [] 96 D.flood (.bool D.floodB):=fun zs hz R=>by
 obtain⟨zs1,⟨d1,hd1,C1⟩,R1,hz1⟩:=(tintFns.phase c D).at hz R
 by_cases hp:D.phase=2
 ·rw[hp] at C1
  by_cases hs:D.scan=0
  ·obtain⟨zs2,⟨d2,hd2,C2⟩,R2,hz2⟩:=(Dn (c:=c) hs).at hz1 R1
   cases hr:D.ring with
   |cons b rest=>
    have e:D.floodB=true:=by unfold Wd.floodB;simp[hp,hr]
    obtain⟨zs3,⟨d3,hd3,C3⟩,R3,hz3⟩:=(Gh (c:=c) hr).at hz2 R2
    unfold Wd.flood
    rw[e,if_pos rfl,if_pos hs,hr]
    exact⟨zs3,⟨d1+d2+d3,by omega,uu C1 C2 C3⟩,R3⟩
   |nil=>
    obtain⟨zs3,⟨d3,hd3,C3⟩,R3,hz3⟩:=(yX (c:=c) hr).at hz2 R2
    by_cases hk:D.cursor<(D.n:Int)
    ·have e:D.floodB=true:=by unfold Wd.floodB;simp[hp,hk]
     obtain⟨zs4,⟨d4,hd4,C4⟩,R4,hz4⟩:=(Lh (c:=c) S hk).at hz3 R3
     unfold Wd.flood
     rw[e,if_pos rfl,if_pos hs,hr]
     exact⟨zs4,⟨d1+d2+d3+d4,by omega,pE C1 C2 C3 C4⟩,R4⟩
    ·have e:D.floodB=false:=by unfold Wd.floodB;simp[hs,hr,hk]
     obtain⟨zs4,⟨d4,hd4,C4⟩,R4,hz4⟩:=(Dm (c:=c) hk).at hz3 R3
     rw[flood_idle e,e]
     exact⟨zs4,⟨d1+d2+d3+d4,by omega,pE C1 C2 C3 C4⟩,R4⟩
  ·have e:D.floodB=true:=by unfold Wd.floodB;simp[hp,hs]
   obtain⟨zs2,⟨d2,hd2,C2⟩,R2,hz2⟩:=(Li (c:=c) S hs).at hz1 R1
   unfold Wd.flood
   rw[e,if_pos rfl,if_neg hs]
   exact⟨zs2,⟨d1+d2,by omega,yK C1 C2⟩,R2⟩
 ·have e:=uB hp
  rw[flood_idle e,e]
  exact⟨zs1,⟨d1,by omega,wJ hp C1⟩,R1⟩
end
def mg:Option Th→Nat
 |none=>2
 |some t=>t.pt.length+2
def iY(F:Int):Option Th→Nat
 |none=>1
 |some t=>((t.pt.length:Int)-F).toNat+1
def whiteT(P:Int)(t:Th):Nat:=if t.mr.color=P then 0 else t.pt.length+2
def gH(D:Wd)(l:List Nat):Nat:=(l.map (fun b:Nat=>mg (D.find ((b:Int)+1)))).sum
def nZ(D:Wd):Nat:=sumL (whiteT D.parity) D.ts+gH D D.ring
def pot(D:Wd):Nat:=((D.n:Int)-D.cursor).toNat+nZ D+(if D.scan=0 then 0 else iY D.scanF (D.find D.scan))
section
variable {D D':Wd} {t u:Th} {r x:Int} {l:List Nat}
theorem vE(h:∀q,mg (D'.find q)=mg (D.find q)):∀l:List Nat,gH D' l=gH D l:=fun l=>by
 unfold gH
 congr 1
 exact List.map_congr_left (fun b _=>h _)
theorem uX(r:Int)(f:Mrk→Mrk)(q:Int):mg ((D.mark r f).find q)=mg (D.find q):=by
 rw[find_mark]
 cases D.find q with
 |none=>rfl
 |some t=>
  simp only[Option.map_some]
  split<;>rfl
theorem Dy(r:Int)(f:Mrk→Mrk)(F q:Int):iY F ((D.mark r f).find q)=iY F (D.find q):=by
 rw[find_mark]
 cases D.find q with
 |none=>rfl
 |some t=>
  simp only[Option.map_some]
  split<;>rfl
theorem Cr(r q:Int):mg ((D.touch r).find q)=mg (D.find q):=by
 unfold Wd.touch
 split
 ·exact uX (D:=D) r (fun m=>{m with color:=D.parity}) q
 ·rfl
theorem Cs(r F q:Int):iY F ((D.touch r).find q)=iY F (D.find q):=by
 unfold Wd.touch
 split
 ·exact Dy (D:=D) r (fun m=>{m with color:=D.parity}) F q
 ·rfl
theorem Fw(S:San D)(r:Int):nZ (D.touch r)≤nZ D:=by
 cases ht:D.toucht r with
 |false=>
  have e:D.touch r=D:=by unfold Wd.touch;rw[ht];rfl
  rw[e]
  exact Nat.le_refl _
 |true=>
  cases hf:D.find r with
  |none=>unfold Wd.toucht at ht;rw[hf] at ht;cases ht
  |some t=>
   obtain⟨htl,er⟩:=find_live hf
   have hnb:t.mr.color≠D.parity:=by
    unfold Wd.toucht at ht
    rw[hf] at ht
    simp at ht
    exact ht.2
   have e:D.touch r={D.paint r with ring:=if hasB (ints D.ring) (r-1) then D.ring else D.ring++[(r-1).toNat]}:=by unfold Wd.touch;rw[ht];rfl
   have h1:=sumL_upd (φ:=whiteT D.parity) (g:=fun t=>{t with mr:={t.mr with color:=D.parity}}) hf (find_at hf).2.1
   have h2:whiteT D.parity {t with mr:={t.mr with color:=D.parity}}=0:=by unfold whiteT;rw[if_pos rfl]
   have h3:whiteT D.parity t=t.pt.length+2:=by unfold whiteT;rw[if_neg hnb]
   have h4:gH (D.touch r) (D.touch r).ring≤gH D D.ring+(t.pt.length+2):=by
    rw[vE (Cr r)]
    rw[e]
    show gH D (if hasB (ints D.ring) (r-1) then D.ring else D.ring++[(r-1).toNat])≤_
    split
    ·exact Nat.le_add_right _ _
    ·unfold gH
     rw[List.map_append,List.sum_append]
     have e2:(((r-1).toNat:Nat):Int)+1=r:=by omega
     simp only[List.map_cons,List.map_nil,List.sum_cons,List.sum_nil,e2,hf]
     exact Nat.le_refl _
   have h5:sumL (whiteT (D.touch r).parity) (D.touch r).ts=sumL (whiteT D.parity) (updL r (fun t=>{t with mr:={t.mr with color:=D.parity}}) D.ts):=by rw[e];rfl
   unfold nZ
   rw[h5]
   omega
theorem BX(r:Int):nZ (D.settle r)=nZ D:=by
 unfold nZ
 have h1:sumL (whiteT (D.settle r).parity) (D.settle r).ts=sumL (whiteT D.parity) D.ts:=sumL_mark r (fun t=>rfl)
 have h2:gH (D.settle r) (D.settle r).ring=gH D D.ring:=vE (uX r _) D.ring
 rw[h1,h2]
theorem Ns(S:San D)(r:Int)(o:Option Th):nZ (D.lookT r o)≤nZ D:=by
 unfold Wd.lookT
 split
 ·exact Nat.le_refl _
 ·split
  ·exact Nat.le_refl _
  ·split
   ·exact Nat.le_trans (Fw (S.settle r) r) (Nat.le_of_eq (BX r))
   ·exact Nat.le_of_eq (BX r)
theorem uV(r:Int)(o:Option Th):(D.lookT r o).n=D.n∧(D.lookT r o).scan=D.scan:=by
 unfold Wd.lookT
 split
 ·exact⟨rfl,rfl⟩
 ·split
  ·exact⟨rfl,rfl⟩
  ·split
   ·unfold Wd.touch
    split<;>exact⟨rfl,rfl⟩
   ·exact⟨rfl,rfl⟩
theorem nD(r:Int):(D.touch r).n=D.n∧(D.touch r).scan=D.scan∧(D.touch r).cursor=D.cursor:=by
 unfold Wd.touch
 split<;>exact⟨rfl,rfl,rfl⟩
theorem pot_flood(S:San D)(hF:0≤D.scanF)(hb:D.floodB=true):pot D.flood+1≤pot D:=by
 unfold Wd.flood
 rw[hb,if_pos rfl]
 by_cases hs:D.scan=0
 ·rw[if_pos hs]
  cases hr:D.ring with
  |cons b rest=>
   show((D.n:Int)-D.cursor).toNat+(sumL (whiteT D.parity) D.ts+gH D rest)+(if(b:Int)+1=0 then 0 else iY 0 (D.find ((b:Int)+1)))+1≤((D.n:Int)-D.cursor).toNat+(sumL (whiteT D.parity) D.ts+gH D D.ring)+(if D.scan=0 then 0 else iY D.scanF (D.find D.scan))
   rw[if_neg (by omega),if_pos hs,hr]
   have h1:gH D (b::rest)=mg (D.find ((b:Int)+1))+gH D rest:=by unfold gH;simp
   rw[h1]
   cases D.find ((b:Int)+1) with
   |none=>simp only[mg,iY];omega
   |some t=>simp only[mg,iY];omega
  |nil=>
   have hk:D.cursor<(D.n:Int):=by
    unfold Wd.floodB at hb
    rw[hr] at hb
    simp[hs] at hb
    exact hb.2
   have h1:=Ns S (D.cursor+1) (D.find (D.cursor+1))
   obtain⟨e1,e2⟩:=uV (D:=D) (D.cursor+1) (D.find (D.cursor+1))
   show(((D.lookT (D.cursor+1) (D.find (D.cursor+1))).n:Int)-(D.cursor+1)).toNat+nZ (D.lookT (D.cursor+1) (D.find (D.cursor+1)))+(if(D.lookT (D.cursor+1) (D.find (D.cursor+1))).scan=0 then 0 else _)+1≤((D.n:Int)-D.cursor).toNat+nZ D+(if D.scan=0 then 0 else iY D.scanF (D.find D.scan))
   rw[e1,e2,if_pos hs,if_pos hs]
   omega
 ·rw[if_neg hs]
  have hp:pot D=((D.n:Int)-D.cursor).toNat+nZ D+iY D.scanF (D.find D.scan):=by unfold pot;rw[if_neg hs]
  rw[hp]
  unfold Wd.scanAt
  cases hf:D.find D.scan with
  |none=>
   show((D.n:Int)-D.cursor).toNat+nZ D+(if(0:Int)=0 then 0 else _)+1≤_
   rw[if_pos rfl]
   exact Nat.le_refl _
  |some t=>
   simp only
   by_cases hff:D.scanF<(t.pt.length:Int)
   ·rw[if_pos hff]
    have h1:=Fw S (nth t.pt D.scanF.toNat)
    obtain⟨e1,e2,e3⟩:=nD (D:=D) (nth t.pt D.scanF.toNat)
    show(((D.touch (nth t.pt D.scanF.toNat)).n:Int)-(D.touch (nth t.pt D.scanF.toNat)).cursor).toNat+nZ (D.touch (nth t.pt D.scanF.toNat))+(if(D.touch (nth t.pt D.scanF.toNat)).scan=0 then 0 else iY (D.scanF+1) ((D.touch (nth t.pt D.scanF.toNat)).find (D.touch (nth t.pt D.scanF.toNat)).scan))+1≤_
    rw[e1,e2,e3,if_neg hs,Cs,hf]
    simp only[iY]
    omega
   ·rw[if_neg hff]
    show((D.n:Int)-D.cursor).toNat+nZ D+(if(0:Int)=0 then 0 else _)+1≤_
    rw[if_pos rfl]
    simp only[iY]
    omega
end
def aC:Nat→Wd→Wd
 |0,D=>D
 |n+1,D=>(aC n D).tally
def bg:Nat→Wd→Wd
 |0,D=>D
 |n+1,D=>(bg n D).flood
section
variable {w wr w':World} {p:Pl} {c:Cf} {k m n:Nat} {D D':Wd} {t u:Th}
theorem RSt.cursF(h:RSt w p c D wr):0≤D.cursor∧0≤D.field∧D.n=c.N∧0≤D.scanF:=by
 obtain⟨zs,m,hG,hR,_⟩:=h
 exact⟨(hR.curs hG.wz).1.1,(hR.curs hG.wz).2.1,hR.n,(hR.scans hG.wz).2.1⟩
def rhoT(N:Nat)(D:Wd):Nat:=((N:Int)*100002+100001-(D.cursor*100002+D.field)).toNat
theorem rhoT_lt{N:Nat}(hN:D.n=N)(hc:0≤D.cursor)(hf:0≤D.field)(hfl:D.field≤100000)(hs:∀t,t∈D.live→t.pt.length≤100000)(hb:D.tallyB=true):rhoT N D.tally+1≤rhoT N D∧D.tally.field≤100000:=by
 have hlt:D.cursor<(N:Int):=by
  unfold Wd.tallyB at hb
  rw[hN] at hb
  simp at hb
  exact hb.2
 have key:D.tally.cursor*100002+D.tally.field≥D.cursor*100002+D.field+1∧D.tally.cursor*100002+D.tally.field≤(N:Int)*100002+100000∧D.tally.field≤100000:=by
  unfold Wd.tally
  rw[hb,if_pos rfl]
  unfold Wd.tallyAt
  have e1:(D.move (D.cursor+1) 0).cursor=D.cursor+1∧(D.move (D.cursor+1) 0).field=0:=⟨rfl,rfl⟩
  cases hfd:D.find (D.cursor+1) with
  |none=>
   simp only
   rw[e1.1,e1.2]
   omega
  |some t=>
   have ht:=hs t (find_live hfd).1
   simp only
   split
   ·rw[e1.1,e1.2]
    omega
   ·split
    ·show D.cursor*100002+(D.field+1)≥_∧D.cursor*100002+(D.field+1)≤_∧D.field+1≤100000
     omega
    ·show(D.cursor+1)*100002+0≥_∧(D.cursor+1)*100002+0≤_∧(0:Int)≤100000
     omega
 unfold rhoT
 omega
theorem RSt.PY(h:RSt w p c D wr)(S:San D)(hN:c.N≤1000):pot D≤1000000000:=by
 have hcu:=h.cursF
 have hsz:=h.sizes
 have htot:=h.total S
 have hri:=(h.sit S).lens.1
 have h1:sumL (whiteT D.parity) D.ts≤100002*sumL occT D.ts:=lS 100002 (fun t ht=>by
  have h2:=hsz t ht
  have h3:1≤occT t:=by unfold occT;split<;>omega
  unfold whiteT
  split<;>omega)
 have h2:∀l:List Nat,gH D l≤100002*l.length:=fun l=>by
  induction l with
  |nil=>exact Nat.le_refl _
  |cons b l ih=>
   have e:gH D (b::l)=mg (D.find ((b:Int)+1))+gH D l:=by unfold gH;simp
   have h3:mg (D.find ((b:Int)+1))≤100002:=by
    cases hf:D.find ((b:Int)+1) with
    |none=>exact(show 2≤100002 by decide)
    |some t=>
     have:=hsz t (find_live hf).1
     show t.pt.length+2≤_
     omega
   rw[e,List.length_cons]
   omega
 have h3:=h2 D.ring
 have h4:(if D.scan=0 then 0 else iY D.scanF (D.find D.scan))≤100001:=by
  split
  ·omega
  ·cases hf:D.find D.scan with
   |none=>exact(show 1≤100001 by decide)
   |some t=>
    have:=hsz t (find_live hf).1
    show((t.pt.length:Int)-D.scanF).toNat+1≤_
    omega
 have h5:((D.n:Int)-D.cursor).toNat≤1000:=by omega
 unfold pot nZ
 omega
end
def OM(w:World)(p:Pl)(c:Cf)(D1:Wd)(ws:World)(e:Ending)(w':World):Prop:=
 ∃m n:Nat,e=.returned (.int .i64 (n:Int))∧(∀j,j<m→(aC j D1).tallyB=true)∧(aC m D1).tallyB=false∧
  (∀j,j<n→(bg j ((aC m D1).begin 2)).floodB=true)∧(bg n ((aC m D1).begin 2)).floodB=false∧
  n+pot (bg n ((aC m D1).begin 2))≤pot ((aC m D1).begin 2)∧
  RSt w p c (bg n ((aC m D1).begin 2)) w'∧San (bg n ((aC m D1).begin 2))∧Touch (inG p) ws w'
def RunT(w:World)(p:Pl)(c:Cf)(k:Nat)(D1:Wd)(ws:World)(m:Nat)(wx:World):Prop:=
 ∃i,RSt w p c (aC i D1) wx∧(∀j,j<i→(aC j D1).tallyB=true)∧PInv c (k+2+i) (aC i D1)∧(aC i D1).field≤100000∧i+m≤200000000∧rhoT c.N (aC i D1)≤m∧Touch (inG p) ws wx
set_option maxHeartbeats 2000000 in
theorem Fh{w ws:World}{p:Pl}{c:Cf}{k:Nat}{D:Wd}(h:RSt w p c D ws)(I:PInv c k D)(hk:k≤1000)(hN:c.N≤1000):
  Calls Tryz.prog 22 #[.pointer (some ⟨p.a,0,none⟩)] ws (OM w p c (D.turn.begin 1) ws):=by
 have I1:PInv c (k+2) (D.turn.begin 1):=I.turn.begin_ 1
 have hf0:(D.turn.begin 1).field≤100000:=show(0:Int)≤100000 by decide
 have HS:=hid h
 have HI1:=hid I1
 have HF0:=hid hf0
 have HK:=hid (And.intro hk hN)
 obtain⟨vt,ht⟩:=tintFns.turn c D
 have HTu:=hid ht
 have HBe:=hid (ld_begin (c:=c) (D:=D.turn) 1 (by decide) (by decide))
 clear h I I1 ht hk hN hf0
 generalize D.turn.begin 1=D1 at*
 obtain⟨μ,hμ⟩:=least_fn (RunT w p c k D1 ws)
 have HM:=hid hμ
 clear hμ
 go_enter Tryz.func22,Tryz.ntmps22
 go_wp2_with fail
 refine(HS.out.does HTu.out).mono ?_
 rintro e w1 ⟨rfl,h1,hT1⟩
 have HS1:=hid h1
 have HT1:=hid hT1
 clear h1 hT1
 go_wp2_with fail
 refine(HS1.out.does HBe.out).mono ?_
 rintro e w2 ⟨rfl,h2,hT2⟩
 have H0:Hid (∃m,RunT w p c k D1 ws m w2):=hid ⟨rhoT c.N D1,0,h2,fun j hj=>by omega,HI1.out,HF0.out,by
  have h3:=RSt.cursF (D:=D1) h2
  have h4:=HK.out.2
  unfold rhoT
  omega,Nat.le_refl _,HT1.out.trans hT2⟩
 clear h2 hT2
 go_wp2_with fail
 generalize hw2:w2=wy at*
 clear hw2
 go_loopw [] (fun wx=>∃m,RunT w p c k D1 ws m wx) (fun wx=>μ wx)
 case atStart=>exact H0.out
 case round=>
  obtain⟨m0,hm0⟩:=hrel
  obtain⟨⟨i,hS,hj,hI,hf,hi,hr,hT⟩,_⟩:=HM.out wr m0 hm0
  clear hm0
  have HSx:=hid hS
  have hcu:=hS.cursF
  have HTy:=hid (ld_tally (c:=c) hI.san (fun q=>by have h1:=hI.bd.shd q;have h2:=HK.out.1;omega))
  have HTx:=hid hT
  cases hb:(aC i D1).tallyB with
  |true=>
   rw[hb] at HTy
   obtain⟨hlt,hfl⟩:=rhoT_lt (N:=c.N) hcu.2.2.1 hcu.1 hcu.2.1 hf hS.sizes hb
   have HJ:Hid (∀j,j<i+1→(aC j D1).tallyB=true):=hid (fun j h=>by
    by_cases e:j=i
    ·rw[e];exact hb
    ·exact hj j (by omega))
   have HIx:Hid (PInv c (k+2+(i+1)) (aC (i+1) D1)):=hid hI.tally
   have HFx:Hid ((aC (i+1) D1).field≤100000):=hid hfl
   obtain⟨m,hme⟩:∃m,m+1=μ wr:=⟨μ wr-1,by omega⟩
   have HK2:Hid (i+1+m≤200000000∧rhoT c.N (aC (i+1) D1)≤m):=hid ⟨by omega,by have:rhoT c.N (aC (i+1) D1)+1≤rhoT c.N (aC i D1):=hlt;omega⟩
   have HMe:=hid hme
   clear hS hcu hb hlt hfl hI hf hi hr hT hj hme
   go_wp2_with fail
   refine(HSx.out.does HTy.out).mono ?_
   rintro e w3 ⟨rfl,h3,hT3⟩
   have HE:Hid (RunT w p c k D1 ws m w3):=hid ⟨i+1,h3,HJ.out,HIx.out,HFx.out,HK2.out.1,HK2.out.2,HTx.out.trans hT3⟩
   clear h3 hT3
   go_wp2_with fail
   go_roundw
   case rel=>exact⟨m,HE.out⟩
   case measure=>
    have h1:=(HM.out w3 m HE.out).2
    have h2:=HMe.out
    omega
  |false=>
   rw[hb] at HTy
   have HTy2:=hid (HTy.out.as rfl (tally_idle hb))
   have HBe2:=hid (ld_begin (c:=c) (D:=aC i D1) 2 (by decide) (by decide))
   have HS2:Hid (San ((aC i D1).begin 2)):=hid (hI.san.same_but rfl rfl rfl rfl (fun b hb=>.inl hb))
   have HJ:=hid hj
   have HB:=hid hb
   clear hS hcu hb hI hf hi hr hT hj HTy
   go_wp2_with fail
   refine(HSx.out.does HTy2.out).mono ?_
   rintro e w3 ⟨rfl,h3,hT3⟩
   have HS3:=hid h3
   have HT3:=hid (HTx.out.trans hT3)
   clear h3 hT3
   go_wp2_with fail
   refine(HS3.out.does HBe2.out).mono ?_
   rintro e w4 ⟨rfl,h4,hT4⟩
   have HS4:=hid h4
   have HT4:=hid (HT3.out.trans hT4)
   have HPb:=hid (RSt.PY h4 HS2.out HK.out.2)
   clear h4 hT4
   go_wp2_with fail
   generalize hw4:w4=wz at*
   clear hw4
   go_loopw [3] (fun x wx=>∃n:Nat,x=.int .i64 (n:Int)∧RSt w p c (bg n ((aC i D1).begin 2)) wx∧San (bg n ((aC i D1).begin 2))∧(∀j,j<n→(bg j ((aC i D1).begin 2)).floodB=true)∧n+pot (bg n ((aC i D1).begin 2))≤pot ((aC i D1).begin 2)∧Touch (inG p) ws wx) (fun x _=>pot ((aC i D1).begin 2)+1-(intOf x).toNat)
   case atStart=>exact⟨0,rfl,HS4.out,HS2.out,fun j hj=>by omega,by show 0+pot ((aC i D1).begin 2)≤_;omega,HT4.out⟩
   case round=>
    obtain⟨n,rfl,hS,hsn,hj,hpt,hT⟩:=hrel
    have HSx:=hid hS
    have HSn:=hid hsn
    have HJn:=hid hj
    have HPt:=hid hpt
    have HTx:=hid hT
    have HFl:=hid (ld_flood (c:=c) hsn)
    have hpb:=HPb.out
    cases hb:(bg n ((aC i D1).begin 2)).floodB with
    |true=>
     rw[hb] at HFl
     have hlt:pot (bg (n+1) ((aC i D1).begin 2))+1≤pot (bg n ((aC i D1).begin 2)):=pot_flood hsn hS.cursF.2.2.2 hb
     have HPn:Hid (n+1+pot (bg (n+1) ((aC i D1).begin 2))≤pot ((aC i D1).begin 2)):=hid (by omega)
     have HSn2:Hid (San (bg (n+1) ((aC i D1).begin 2))):=hid hsn.flood
     have HJn2:Hid (∀j,j<n+1→(bg j ((aC i D1).begin 2)).floodB=true):=hid (fun j h=>by
      by_cases e:j=n
      ·rw[e];exact hb
      ·exact hj j (by omega))
     have hnb:n<1000000000:=by omega
     clear hS hsn hj hpt hT hb hlt hpb
     go_wp2_with fail
     refine(HSx.out.does HFl.out).mono ?_
     rintro e w5 ⟨rfl,h5,hT5⟩
     have HS5:Hid (RSt w p c (bg (n+1) ((aC i D1).begin 2)) w5):=hid h5
     have HT5:=hid (HTx.out.trans hT5)
     clear h5 hT5
     go_wp2_with fail
     go_roundw
     case rel=>exact⟨n+1,by go_num,HS5.out,HSn2.out,HJn2.out,HPn.out,HT5.out⟩
     case measure=>
      have:=HPn.out
      simp[intOf]
      omega
    |false=>
     rw[hb] at HFl
     have HFl2:=hid (HFl.out.as rfl (flood_idle hb))
     have HBf:=hid hb
     clear hS hsn hj hpt hT hb hpb HFl
     go_wp2_with fail
     refine(HSx.out.does HFl2.out).mono ?_
     rintro e w5 ⟨rfl,h5,hT5⟩
     have HS5:=hid h5
     have HT5:=hid (HTx.out.trans hT5)
     clear h5 hT5
     go_wp2_with fail
     go_ret
     exact⟨i,n,rfl,HJ.out,HB.out,HJn.out,HBf.out,HPt.out,HS5.out,HSn.out,HT5.out⟩
def AC:Nat→Wd
 |0=>Wd.new 4 16
 |n+1=>(AC n).born 1 0
def IX:Wd:=(AC 4).put 1 0 2 0
def KW:Wd:=IX.put 2 0 3 0
def KX:Wd:=KW.put 4 0 4 0
def KU:Wd:=KX.less 2
def KV:Wd:=KU.less 3
def MZ:Wd:=KV.less 4
def OA:Wd:=MZ.turn.begin 1
def Oz:Wd:=(aC 8 OA).begin 2
def Ky:Wd:=bg 13 Oz
theorem OZ:∀j:Fin 4,(AC j).mkE 1 0=0∧(AC j).mkR 1 0=((j:Nat):Int)+1:=by decide
theorem Ja:∀j:Fin 8,(aC j OA).tallyB=true:=by decide
theorem FY:(aC 8 OA).tallyB=false:=by decide
theorem IZ:∀j:Fin 13,(bg j Oz).floodB=true:=by decide
theorem qP:(bg 13 Oz).floodB=false:=by decide
theorem pG:Ky.black 1=true∧Ky.black 2=true∧Ky.black 3=true∧Ky.black 4=false:=by decide
def MG(h:Nat)(x:Int)(n:Int):Th:=⟨h,[],[x],[],false,⟨n,0,0,0,0,false,0,0⟩⟩
theorem MH:(AC 4).find 1=some (MG 0 0 1):=by rfl
theorem OU:(AC 4).find 2=some (MG 1 0 1):=by rfl
theorem MI:IX.find 2=some (MG 1 0 2):=by rfl
theorem OV:IX.find 3=some (MG 2 0 1):=by rfl
theorem IY:KW.find 4=some (MG 3 0 1):=by rfl
theorem OW:KX.find 2=some (MG 1 3 2):=by rfl
theorem OX:KU.find 3=some (MG 2 0 2):=by rfl
theorem OY:KV.find 4=some (MG 3 4 2):=by rfl
theorem last_one{P:Nat→Bool}{a b:Nat}(ha:∀j,j<a→P j=true)(ha2:P a=false)(hb:∀j,j<b→P j=true)(hb2:P b=false):a=b:=by
 rcases Nat.lt_trichotomy a b with h|h|h
 ·rw[hb a h] at ha2
  cases ha2
 ·exact h
 ·rw[ha b h] at hb2
  cases hb2
theorem PInv.Jm{c:Cf}{k:Nat}{D:Wd}(I:PInv c k D)(r:Int):PInv c (k+1) (D.less r):=I.to (I.san.less r) ((I.bd.less r).mono (Nat.le_succ k)) (less_hd r)
set_option maxHeartbeats 2000000 in
theorem begun17_any(w:World):Calls Tryz.prog 6 #[] w fun e w'=>e=.returned (.bool true)∧Below w.heap.size w w':=by
 go_enter Tryz.func6,Tryz.ntmps6
 go_wp2_with fail
 refine(vv poolFns 4 _ (by decide) (by decide)).mono ?_
 rintro e w0 ⟨p,q,lo,rfl,h,_,_,_,_⟩
 have H0:Hid (RSt w p (dF 4) (AC 0) w0∧PInv (dF 4) 0 (AC 0)):=hid ⟨h,PInv.new (dF 4) (v:=16) (by decide)⟩
 clear h
 go_wp2_with fail
 go_loopw [4] (fun x wx=>∃k:Nat,k≤4∧x=.int .i64 ((k:Int)+1)∧RSt w p (dF 4) (AC k) wx∧PInv (dF 4) k (AC k)) (fun x _=>5-(intOf x).toNat)
 case atStart=>exact⟨0,by omega,rfl,H0.out.1,H0.out.2⟩
 case round=>
  obtain⟨k,hk,rfl,hS,hI⟩:=hrel
  by_cases hlt:k<4
  ·have HB:=hid (ls_Born (dF 4) (AC k) 1 0 hS)
   have hmk:=OZ ⟨k,hlt⟩
   rw[show(AC k).mkE 1 0=0 from hmk.1,show(AC k).mkR 1 0=(k:Int)+1 from hmk.2,show(AC k).born 1 0=AC (k+1) from rfl] at HB
   have HI:=hid hI
   have hle:(k:Int)+1≤4:=by omega
   clear hS hI hmk
   go_wp2_with fail
   refine HB.out.mono ?_
   rintro e w1 ⟨rfl,h1,_,hOk⟩
   have HS1:=hid h1
   have HI1:Hid (PInv (dF 4) (k+1) (AC (k+1))):=hid (HI.out.born hOk)
   clear h1 hOk
   go_wp2_with fail
   go_roundw
   case rel=>exact⟨k+1,by omega,by go_num,HS1.out,HI1.out⟩
   case measure=>simp[intOf];omega
  ·obtain rfl:k=4:=by omega
   have HS:=hid hS
   have I4:PInv (dF 4) 4 (AC 4):=hI
   have I5:PInv (dF 4) 5 IX:=I4.put MH rfl 0 2 0
   have I6:PInv (dF 4) 6 KW:=I5.put MI rfl 0 3 0
   have I7:PInv (dF 4) 7 KX:=I6.put IY rfl 0 4 0
   have I8:PInv (dF 4) 8 KU:=I7.Jm 2
   have I9:PInv (dF 4) 9 KV:=I8.Jm 3
   have HI10:Hid (PInv (dF 4) 10 MZ):=hid (I9.Jm 4)
   have HP1:=hid (ld_Put (c:=dF 4) (x:=2) (i:=0) I4.san MH rfl (by decide) (.inr ⟨_,OU,rfl,by decide⟩) (by decide) (by decide))
   have HP2:=hid (ld_Put (c:=dF 4) (x:=3) (i:=0) I5.san MI rfl (by decide) (.inr ⟨_,OV,rfl,by decide⟩) (by decide) (by decide))
   have HP3:=hid (ld_Put (c:=dF 4) (x:=4) (i:=0) I6.san IY rfl (by decide) (.inr ⟨_,IY,rfl,by decide⟩) (by decide) (by decide))
   have HL1:=hid (ld_Let (c:=dF 4) OW rfl (by decide) (by decide) (by decide))
   have HL2:=hid (ld_Let (c:=dF 4) OX rfl (by decide) (by decide) (by decide))
   have HL3:=hid (ld_Let (c:=dF 4) OY rfl (by decide) (by decide) (by decide))
   clear hS hI I4 I5 I6 I7 I8 I9
   go_wp2_with fail
   refine(HS.out.does HP1.out).mono ?_
   rintro e w1 ⟨rfl,h,_⟩
   have H1:Hid (RSt w p (dF 4) IX w1):=hid h
   clear h
   go_wp2_with fail
   refine(H1.out.does HP2.out).mono ?_
   rintro e w2 ⟨rfl,h,_⟩
   have H2:Hid (RSt w p (dF 4) KW w2):=hid h
   clear h
   go_wp2_with fail
   refine(H2.out.does HP3.out).mono ?_
   rintro e w3 ⟨rfl,h,_⟩
   have H3:Hid (RSt w p (dF 4) KX w3):=hid h
   clear h
   go_wp2_with fail
   refine(H3.out.does HL1.out).mono ?_
   rintro e w4 ⟨rfl,h,_⟩
   have H4:Hid (RSt w p (dF 4) KU w4):=hid h
   clear h
   go_wp2_with fail
   refine(H4.out.does HL2.out).mono ?_
   rintro e w5 ⟨rfl,h,_⟩
   have H5:Hid (RSt w p (dF 4) KV w5):=hid h
   clear h
   go_wp2_with fail
   refine(H5.out.does HL3.out).mono ?_
   rintro e w6 ⟨rfl,h,_⟩
   have H6:Hid (RSt w p (dF 4) MZ w6):=hid h
   clear h
   go_wp2_with fail
   refine(Fh H6.out HI10.out (by decide) (by decide)).mono ?_
   rintro e w7 ⟨m,n,rfl,t1,t2,f1,f2,_,hS,hsn,_⟩
   have t1:∀j,j<m→(aC j OA).tallyB=true:=t1
   have t2:(aC m OA).tallyB=false:=t2
   obtain rfl:m=8:=last_one (P:=fun j=>(aC j OA).tallyB) t1 t2 (fun j hj=>Ja ⟨j,hj⟩) FY
   have f1:∀j,j<n→(bg j Oz).floodB=true:=f1
   have f2:(bg n Oz).floodB=false:=f2
   obtain rfl:n=13:=last_one (P:=fun j=>(bg j Oz).floodB) f1 f2 (fun j hj=>IZ ⟨j,hj⟩) qP
   have H7:Hid (RSt w p (dF 4) Ky w7):=hid hS
   have HB1:=hid ((tintFns.black (dF 4) Ky 1 (qV 1)).as (vb pG.1) rfl)
   have HB2:=hid ((tintFns.black (dF 4) Ky 2 (qV 2)).as (vb pG.2.1) rfl)
   have HB3:=hid ((tintFns.black (dF 4) Ky 3 (qV 3)).as (vb pG.2.2.1) rfl)
   have HB4:=hid ((tintFns.black (dF 4) Ky 4 (qV 4)).as (vb pG.2.2.2) rfl)
   have HFl:=hid ((ld_flood (c:=dF 4) (D:=Ky) hsn).as (vb qP) (flood_idle qP))
   clear hS hsn t1 t2 f1 f2
   go_wp2_with fail
   refine(H7.out.does HB1.out).mono ?_
   rintro e w8 ⟨rfl,h,_⟩
   have H8:=hid h
   clear h
   go_wp2_with fail
   refine(H8.out.does HB2.out).mono ?_
   rintro e w9 ⟨rfl,h,_⟩
   have H9:=hid h
   clear h
   go_wp2_with fail
   refine(H9.out.does HB3.out).mono ?_
   rintro e w10 ⟨rfl,h,_⟩
   have H10:=hid h
   clear h
   go_wp2_with fail
   refine(H10.out.does HB4.out).mono ?_
   rintro e w11 ⟨rfl,h,_⟩
   have H11:=hid h
   clear h
   go_wp2_with fail
   refine(H11.out.does HFl.out).mono ?_
   rintro e w12 ⟨rfl,h,_⟩
   have H12:=hid h
   clear h
   go_wp2_with fail
   go_ret
   exact⟨rfl,H12.out.below⟩
end Go.Proofs.YtofhdfjkhfkhiaaGreat.Pk
