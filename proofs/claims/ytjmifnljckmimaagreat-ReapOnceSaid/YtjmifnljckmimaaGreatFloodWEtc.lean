/-
  Texts laid together: FloodW, FloodRep, FloodHold, FloodDo, FloodPot, FloodRun, FloodRch, FloodAlb, FloodLaw.
-/
import Derived.Test.YtjmifnljckmimaaGreatRefSeeEtc
import Derived.Test.YtjmifnljckmimaaGreatTintFn4Etc
import Derived.Test.YtjmifnljckmimaaGreatFloodFnEtc
import Derived.Test.YtjmifnljckmimaaGreatGravGrownEtc
namespace Go.Proofs.YtjmifnljckmimaaGreat.Pk
open Lib (hid)
open Go.RowKit
set_option linter.unusedVariables false
set_option linter.unusedSimpArgs false
set_option maxRecDepth 100000
section
variable (D:Wd)
def Wd.jv:Option Th→Wd
 |none=>{D with scan:=0}
 |some t=>if D.scanF<(t.pt.length:Int) then {D.touch (nth t.pt D.scanF.toNat) with scanF:=D.scanF+1} else {D with scan:=0}
def Wd.settle(r:Int):Wd:=D.mark r (fun m=>{m with shade:=D.parity,shadow:=D.shd r})
def Wd.bH(r:Int):Option Th→Wd
 |none=>D
 |some t=>if t.mr.dead then D else if D.shd r<t.mr.refs then(D.settle r).touch r else D.settle r
def Wd.zV:Wd:={D.bH (D.cursor+1) (D.find (D.cursor+1)) with cursor:=D.cursor+1}
def Wd.aZ:Bool:=decide (D.phase=2)&&(!decide (D.scan=0)|| !D.ring.isEmpty||decide (D.cursor<(D.n:Int)))
def Wd.flood:Wd:=
 if D.aZ then
  if D.scan=0 then
   match D.ring with
   |b::rest=>{D with ring:=rest,scan:=(b:Int)+1,scanF:=0}
   |[]=>D.zV
  else D.jv (D.find D.scan)
 else D
end
def wY(D:Wd)(x:Int):Prop:=∀v,v∈D.live→(v.h:Int)+1=x→v.mr.dead=true∨v.mr.color=D.parity
def gQ(D:Wd):Prop:=∀u,u∈D.live→u.mr.dead=false→u.mr.color=D.parity→∀i,i<u.pt.length→u.h∈D.ring∨((u.h:Int)+1=D.scan∧D.scanF≤(i:Int))∨wY D (nth u.pt i)
def Rs(D D':Wd):Prop:=D'.parity=D.parity∧D'.scan=D.scan∧D'.scanF=D.scanF
section
variable {D D':Wd} {t u v:Th} {r x y:Int} {g:Th→Th}
theorem gQ.upd(H:gQ D)(S:San D)(hf:D.find r=some t)(hts:D'.ts=updL r g D.ts)(hp:D'.parity=D.parity)(hsc:∀u:Th,u.mr.dead=false→(u.h:Int)+1=D.scan→u∈D'.live→D'.scan=D.scan)(hsf:D'.scanF=D.scanF)(hh:(g t).h=t.h)
  (hr:∀u:Th,u∈D'.live→u.mr.dead=false→u.h∈D.ring→u.h∈D'.ring)
  (hd:(g t).mr.dead=false→(g t).mr.color=D.parity→t.mr.dead=false∧t.mr.color=D.parity∧(g t).pt=t.pt)
  (hb:t.mr.dead=true∨t.mr.color=D.parity→(g t).mr.dead=true∨(g t).mr.color=D.parity):gQ D':=by
 have htl:=(find_live hf).1
 have hm:∀s,s∈D'.live→s=g t∨(s∈D.live∧s.h≠t.h):=fun s h=>by
  unfold Wd.live at h
  rw[hts] at h
  exact aN S.nd hf h
 have hN:∀x,wY D x→wY D' x:=fun x h v hv e=>by
  rw[hp]
  rcases hm v hv with rfl|⟨k,_⟩
  ·rw[hh] at e
   exact hb (h t htl e)
  ·exact h v k e
 intro u hu h1 h2 i hi
 rw[hp] at h2
 have key:∀s,s∈D.live→s.mr.dead=false→s.mr.color=D.parity→s.h=u.h→s.pt=u.pt→u.h∈D'.ring∨((u.h:Int)+1=D'.scan∧D'.scanF≤(i:Int))∨wY D' (nth u.pt i):=fun s hs k1 k2 e1 e2=>by
  rcases H s hs k1 k2 i (by rw[e2];exact hi) with h|h|h
  ·exact .inl (hr u hu h1 (by rw[←e1];exact h))
  ·refine .inr (.inl ?_)
   have e3:(u.h:Int)+1=D.scan:=by rw[←e1];exact h.1
   rw[hsc u h1 e3 hu,hsf]
   exact⟨e3,h.2⟩
  ·exact .inr (.inr (hN _ (by rw[←e2];exact h)))
 rcases hm u hu with rfl|⟨k,_⟩
 ·obtain⟨k1,k2,k3⟩:=hd h1 h2
  exact key t htl k1 k2 hh.symm k3.symm
 ·exact key u k h1 h2 rfl rfl
theorem gQ.mark(H:gQ D)(S:San D)(r:Int){f:Mrk→Mrk}(hd:∀m,(f m).dead=m.dead)(hc:∀m,(f m).color=m.color):gQ (D.mark r f):=by
 cases hf:D.find r with
 |none=>rw[bA f hf];exact H
 |some t=>exact H.upd (g:=fun t=>{t with mr:=f t.mr}) S hf rfl rfl (fun _ _ _ _=>rfl) rfl rfl (fun _ _ _ h=>h) (fun h1 h2=>⟨(hd _).symm.trans h1,(hc _).symm.trans h2,rfl⟩) (fun h=>by rw[show(({t with mr:=f t.mr}:Th).mr.dead)=t.mr.dead from hd _,show(({t with mr:=f t.mr}:Th).mr.color)=t.mr.color from hc _];exact h)
theorem gQ.same(H:gQ D)(h:D'.ts=D.ts)(h2:D'.ring=D.ring)(k:Rs D D'):gQ D':=by
 have hl:D'.live=D.live:=by unfold Wd.live;rw[h]
 unfold gQ wY at*
 rw[hl,h2,k.1,k.2.1,k.2.2]
 exact H
theorem Cs{x:Int}:∀{l:List Nat},hasB (ints l) x=true→x.toNat∈l
 |[],h=>by simp[ints,hasB] at h
 |a::l,h=>by
  by_cases e:(a:Int)=x
  ·have:x.toNat=a:=by omega
   rw[this]
   exact List.mem_cons_self ..
  ·refine List.mem_cons_of_mem _ (Cs ?_)
   unfold hasB ints at h ⊢
   simp at h ⊢
   rcases h with h|h
   ·exact absurd h e
   ·exact h
theorem gQ.touch(H:gQ D)(S:San D)(r:Int):gQ (D.touch r):=by
 cases ht:D.toucht r with
 |false=>
  have e:D.touch r=D:=by unfold Wd.touch;rw[ht];rfl
  rw[e]
  exact H
 |true=>
  cases hf:D.find r with
  |none=>unfold Wd.toucht at ht;rw[hf] at ht;cases ht
  |some t=>
   obtain⟨htl,er⟩:=find_live hf
   have e:D.touch r={D.paint r with ring:=if hasB (ints D.ring) (r-1) then D.ring else D.ring++[(r-1).toNat]}:=by unfold Wd.touch;rw[ht];rfl
   have hth:t.h=(r-1).toNat:=by omega
   have hin:t.h∈(D.touch r).ring:=by
    rw[e]
    show t.h∈(if hasB (ints D.ring) (r-1) then D.ring else D.ring++[(r-1).toNat])
    split
    ·rename_i hb
     rw[hth]
     exact Cs hb
    ·rw[hth]
     simp
   have hri:∀b,b∈D.ring→b∈(D.touch r).ring:=fun b hb=>by
    rw[e]
    show b∈(if hasB (ints D.ring) (r-1) then D.ring else D.ring++[(r-1).toNat])
    split
    ·exact hb
    ·exact List.mem_append_left _ hb
   have hsc:(D.touch r).scan=D.scan∧(D.touch r).scanF=D.scanF∧(D.touch r).parity=D.parity:=by rw[e];exact⟨rfl,rfl,rfl⟩
   have hm:∀s,s∈(D.touch r).live→s={t with mr:={t.mr with color:=D.parity}}∨(s∈D.live∧s.h≠t.h):=fun s h=>by
    rw[e] at h
    exact aN (g:=fun t=>{t with mr:={t.mr with color:=D.parity}}) S.nd hf h
   intro u hu h1 h2 i hi
   rcases hm u hu with rfl|⟨k,_⟩
   ·exact .inl hin
   ·rw[hsc.2.2] at h2
    rcases H u k h1 h2 i hi with h|h|h
    ·exact .inl (hri _ h)
    ·exact .inr (.inl (by rw[hsc.1,hsc.2.1];exact h))
    ·refine .inr (.inr (fun v hv e2=> ?_))
     rw[hsc.2.2]
     rcases hm v hv with rfl|⟨k2,_⟩
     ·exact .inr rfl
     ·exact h v k2 e2
theorem gQ.bury(H:gQ D)(S:San D)(x:Int):gQ (D.bury x):=by
 unfold Wd.bury
 cases hf:D.find x with
 |none=>exact H
 |some t=>
  simp only
  obtain⟨htl,er⟩:=find_live hf
  split
  ·exact H
  ·rename_i hnd
   have hm:∀s,s∈(D.lay x t).live→s.mr.dead=false→s.h≠t.h:=fun s h h2=>by
    unfold Wd.live at h
    rw[lay_ts] at h
    rcases aN (g:=fun s=>{s with mr:={s.mr with dead:=true,left:=(t.pt.length:Int),leaves:=(t.lv.length:Int)}}) S.nd hf h with rfl|⟨_,h3⟩
    ·cases h2
    ·exact h3
   refine H.upd (g:=fun s=>{s with mr:={s.mr with dead:=true,left:=(t.pt.length:Int),leaves:=(t.lv.length:Int)}}) S hf (lay_ts x t) rfl (fun u h1 h2 hu=> ?_) rfl rfl (fun u hu h1 h2=> ?_) (fun h _=>by cases h) (fun _=>.inl rfl)
   ·have:=hm u hu h1
    show(if D.scan=x then 0 else D.scan)=D.scan
    rw[if_neg (by omega)]
   ·have:=hm u hu h1
    show u.h∈D.ring.filter (fun b=>b !=t.h)
    exact List.mem_filter.2 ⟨h2,by simpa using this⟩
theorem gQ.inter(H:gQ D)(S:San D)(x:Int):gQ (D.inter x):=by
 unfold Wd.inter
 split
 ·exact H.bury S x
 ·exact H
theorem gQ.less(H:gQ D)(S:San D)(r:Int):gQ (D.less r):=
 gQ.inter (D:=(D.down r).sus) ((H.mark S r (f:=fun m=>{m with refs:=m.refs-1}) (fun _=>rfl) (fun _=>rfl)).same rfl rfl ⟨rfl,rfl,rfl⟩) (S.down r).sus r
theorem gQ.more(H:gQ D)(S:San D)(r:Int):gQ (D.more r):=(H.mark S r (f:=fun m=>{m with refs:=m.refs+1}) (fun _=>rfl) (fun _=>rfl)).touch (S.up r) r
theorem gQ.setP(H:gQ D)(S:San D)(hf:D.find r=some t){i:Nat}(hi:i<t.pt.length)(hx:t.mr.dead=true∨wY D x):gQ (D.setP r i x):=by
 obtain⟨htl,er⟩:=find_live hf
 have hm:∀s,s∈(D.setP r i x).live→s={t with pt:=t.pt.set i x}∨(s∈D.live∧s.h≠t.h):=fun s h=>aN (g:=fun t=>{t with pt:=t.pt.set i x}) S.nd hf h
 have hN:∀x',wY D x'→wY (D.setP r i x) x':=fun x' h v hv e=>by
  rcases hm v hv with rfl|⟨k,_⟩
  ·exact h t htl e
  ·exact h v k e
 intro u hu h1 h2 j hj
 rcases hm u hu with rfl|⟨k,_⟩
 ·have h1:t.mr.dead=false:=h1
  by_cases e:i=j
  ·subst e
   rcases hx with h|h
   ·rw[h1] at h
    cases h
   ·refine .inr (.inr ?_)
    show wY _ (nth (t.pt.set i x) i)
    rw[aA hi]
    exact hN _ h
  ·rcases H t htl h1 h2 j (by simpa using hj) with h|h|h
   ·exact .inl h
   ·exact .inr (.inl h)
   ·refine .inr (.inr ?_)
    show wY _ (nth (t.pt.set i x) j)
    rw[ae e]
    exact hN _ h
 ·rcases H u k h1 h2 j hj with h|h|h
  ·exact .inl h
  ·exact .inr (.inl h)
  ·exact .inr (.inr (hN _ h))
theorem wY.zero:wY D 0:=fun v _ e=>by omega
theorem gQ.drain(H:gQ D)(S:San D)(hf:D.find r=some t)(hd:t.mr.dead=true){i:Nat}(hi:i<t.pt.length)(x:Int):gQ (D.drain r i x):=by
 have S1:=S.setP hf i (x:=0) (fun _=>rfl)
 have H1:gQ (D.setP r i 0):=H.setP S hf hi (.inl hd)
 have key:∀D2:Wd,San D2→gQ D2→gQ ((D2.down x).inter x):=fun D2 S2 H2=>(H2.mark S2 x (f:=fun m=>{m with refs:=m.refs-1}) (fun _=>rfl) (fun _=>rfl)).inter (S2.down x) x
 unfold Wd.drain
 by_cases hc:(D.setP r i 0).cnt x=0
 ·rw[if_pos hc]
  exact H1
 ·rw[if_neg hc]
  have K:San (if(D.setP r i 0).counted r i then(D.setP r i 0).lighten x else D.setP r i 0)∧gQ (if(D.setP r i 0).counted r i then(D.setP r i 0).lighten x else D.setP r i 0):=by
   split
   ·refine⟨S1.lighten x,?_⟩
    unfold Wd.lighten
    split
    ·exact H1.mark S1 x (f:=fun m=>{m with shadow:=m.shadow-1}) (fun _=>rfl) (fun _=>rfl)
    ·exact H1
   ·exact⟨S1,H1⟩
  exact key _ K.1 K.2
theorem gQ.step(H:gQ D)(S:San D):gQ D.step:=by
 cases hg:D.grave with
 |nil=>rw[show D.step=D by unfold Wd.step;rw[hg]];exact H
 |cons q rest=>
  obtain⟨t,htl,e,hf,hd,d,es⟩:=S.head hg
  rw[es]
  unfold Wd.work
  have hw:=S.w
  by_cases ha:D.ahead t.mr.leaves<t.mr.left
  ·have h0:0≤D.ahead t.mr.leaves:=by
    unfold Wd.ahead
    refine Int.mul_nonneg ?_ (by omega)
    split<;>omega
   rw[if_pos ha]
   have hi:(t.mr.left-1).toNat<t.pt.length:=by have:=d.f1;omega
   exact(H.drain S hf hd hi _).mark (S.drain hf _ _) _ (fun _=>rfl) (fun _=>rfl)
  ·rw[if_neg ha]
   by_cases hl:0<t.mr.leaves
   ·rw[if_pos hl]
    exact H.upd (g:=fun s=>{s with lv:=s.lv.set (t.mr.leaves-1).toNat (-1),mr:={s.mr with leaves:=t.mr.leaves-1}}) S hf (cut_mark _ _ _ _) rfl (fun _ _ _ _=>rfl) rfl rfl (fun _ _ _ h=>h) (fun h1 h2=>⟨h1,h2,rfl⟩) (fun h=>h)
   ·rw[if_neg hl]
    have hlive:({({D with grave:=rest}:Wd).endAt (q:Int) t.h with pending:=D.pending-1}:Wd).live=D.live.filter (fun s=>s.h !=t.h):=live_upd_end (g:=fun s=>{s with ended:=true}) (fun _=>rfl) S.nd hf
    intro u hu h1 h2 i hi
    rw[hlive] at hu
    rcases H u (List.mem_filter.1 hu).1 h1 h2 i hi with h|h|h
    ·exact .inl h
    ·exact .inr (.inl h)
    ·refine .inr (.inr (fun v hv e2=> ?_))
     rw[hlive] at hv
     exact h v (List.mem_filter.1 hv).1 e2
theorem gQ.born{N:Nat}(H:gQ D)(S:San D)(B:BornOk D x y N):gQ (D.born x y):=by
 unfold Wd.born
 by_cases hE:D.mkE x y=0
 ·rw[if_pos hE]
  have S1:=B.san S
  have eR:D.mkR x y=(D.mkB:Int)+1:=by unfold Wd.mkR;rw[if_pos hE]
  have eD:D.mkD x y=D.made D.mkB (D.clean.tail.take (D.mkN x y)) (D.clean.tail.drop (D.mkN x y)) x.toNat y.toNat:=by unfold Wd.mkD;rw[if_pos hE]
  have hlv:(D.mkD x y).live=D.live++[⟨D.mkB,ints (D.clean.tail.take (D.mkN x y)),zer x.toNat,zer y.toNat,false,Mrk.new⟩]:=by rw[eD,live_made]
  have hpar:(D.mkD x y).parity=D.parity∧(D.mkD x y).ring=D.ring∧(D.mkD x y).scan=D.scan∧(D.mkD x y).scanF=D.scanF:=by rw[eD];exact⟨rfl,rfl,rfl,rfl⟩
  have hm:∀s,s∈((D.mkD x y).dye (D.mkR x y)).live→(s.mr.color=D.parity∧∀i,nth s.pt i=0)∨((s.mr.color=D.parity)∧∃v,v∈D.live∧s.h=v.h∧(v.h:Int)+1=D.mkR x y)∨∃v,v∈D.live∧s.h=v.h∧s.mr=v.mr∧s.pt=v.pt:=fun s hs=>by
   obtain⟨v,hv,e1,e2,h⟩:=bC S1 hs
   rw[hlv] at hv
   rcases h with⟨k1,k2⟩|⟨k1,k2⟩
   ·rcases List.mem_append.1 hv with h|h
    ·exact .inr (.inl ⟨by rw[k2];exact hpar.1,v,h,e1,k1⟩)
    ·obtain rfl:=List.mem_singleton.1 h
     exact .inl ⟨by rw[k2];exact hpar.1,fun i=>by rw[e2];exact qG _ i⟩
   ·rcases List.mem_append.1 hv with h|h
    ·exact .inr (.inr ⟨v,h,e1,k2,e2⟩)
    ·obtain rfl:=List.mem_singleton.1 h
     exact absurd eR.symm k1
  have hfr:=B.fresh hE
  have hno:∀v,v∈D.live→(v.h:Int)+1≠D.mkR x y:=fun v hv e=>hfr v hv (by omega)
  refine gQ.more (D:=(D.mkD x y).dye (D.mkR x y)) ?_ (S1.mark _ (fun _=>rfl) (fun _=>rfl) (fun _=>rfl)) _
  have hN:∀x',wY D x'→wY ((D.mkD x y).dye (D.mkR x y)) x':=fun x' h v hv e=>by
   show v.mr.dead=true∨v.mr.color=(D.mkD x y).parity
   rw[hpar.1]
   rcases hm v hv with⟨k,_⟩|⟨k,_⟩|⟨s,hs,e1,e2,_⟩
   ·exact .inr k
   ·exact .inr k
   ·rw[e2]
    exact h s hs (by rw[←e1];exact e)
  intro u hu h1 h2 i hi
  have h2:u.mr.color=(D.mkD x y).parity:=h2
  rw[hpar.1] at h2
  show u.h∈(D.mkD x y).ring∨((u.h:Int)+1=(D.mkD x y).scan∧(D.mkD x y).scanF≤(i:Int))∨_
  rw[hpar.2.1,hpar.2.2.1,hpar.2.2.2]
  rcases hm u hu with⟨_,k⟩|⟨_,v,hv,_,k⟩|⟨s,hs,e1,e2,e3⟩
  ·exact .inr (.inr (by rw[k i];exact wY.zero))
  ·exact absurd k (hno v hv)
  ·rw[e2] at h1 h2
   rcases H s hs h1 h2 i (by rw[←e3];exact hi) with h|h|h
   ·exact .inl (by rw[e1];exact h)
   ·exact .inr (.inl (by rw[e1];exact h))
   ·exact .inr (.inr (by rw[e3];exact hN _ h))
 ·rw[if_neg hE]
  exact H
theorem zk(S:San D)(hp:D.phase≠0)(x:Int):wY (D.touch x) x:=fun v hv e=>by
 cases hd:v.mr.dead with
 |true=>exact .inl rfl
 |false=>exact .inr ((touched S hp v hv e hd).trans (eP x).1.symm)
theorem wY.upd(h:wY D x)(S:San D)(hf:D.find r=some t)(hts:D'.ts=updL r g D.ts)(hp:D'.parity=D.parity)(hh:(g t).h=t.h)(hb:t.mr.dead=true∨t.mr.color=D.parity→(g t).mr.dead=true∨(g t).mr.color=D.parity):wY D' x:=fun v hv e=>by
 unfold Wd.live at hv
 rw[hts] at hv
 rw[hp]
 rcases aN S.nd hf hv with rfl|⟨k,_⟩
 ·rw[hh] at e
  exact hb (h t (find_live hf).1 e)
 ·exact h v k e
theorem gQ.put(H:gQ D)(S:San D)(hp:D.phase≠0)(hf:D.find r=some t)(hd:t.mr.dead=false){i:Nat}(hi:i<t.pt.length):gQ (D.put r i x y):=by
 have h1:San (D.putS r i x)∧gQ (D.putS r i x):=by
  unfold Wd.putS
  by_cases hx0:x=0
  ·rw[if_pos hx0]
   exact⟨S.setP hf i (fun h=>by rw[hd] at h;cases h),H.setP S hf hi (.inr (by rw[hx0];exact wY.zero))⟩
  ·rw[if_neg hx0]
   obtain⟨m,hf1,hm1⟩:=more_find r hf x
   have S1:=S.more x
   exact⟨S1.setP hf1 i (fun h=>by have h:m.dead=true:=h;rw[hm1,hd] at h;cases h),(H.more S x).setP S1 hf1 hi (.inr (zk (S.up x) hp x))⟩
 unfold Wd.put Wd.putY
 split
 ·exact(h1.2.touch h1.1 y).less (h1.1.touch y) y
 ·exact h1.2
theorem gQ.tally(H:gQ D)(S:San D):gQ D.tally:=by
 unfold Wd.tally
 split
 ·unfold Wd.tallyAt
  split
  ·exact H.same rfl rfl ⟨rfl,rfl,rfl⟩
  ·split
   ·exact H.same rfl rfl ⟨rfl,rfl,rfl⟩
   ·split
    ·exact(H.mark S _ (f:=fun m=>{m with shade:=D.parity,shadow:=D.shd (nth _ D.field.toNat)+1}) (fun _=>rfl) (fun _=>rfl)).same rfl rfl ⟨rfl,rfl,rfl⟩
    ·exact(H.mark S _ (f:=fun m=>{m with count:=D.parity}) (fun _=>rfl) (fun _=>rfl)).same rfl rfl ⟨rfl,rfl,rfl⟩
 ·exact H
theorem San.jk(S:San D)(o:Option Th):San (D.jv o):=by
 unfold Wd.jv
 split
 ·exact S.same_but rfl rfl rfl rfl (fun b hb=>.inl hb)
 ·split
  ·exact(S.touch _).same_but rfl rfl rfl rfl (fun b hb=>.inl hb)
  ·exact S.same_but rfl rfl rfl rfl (fun b hb=>.inl hb)
theorem San.settle(S:San D)(r:Int):San (D.settle r):=S.mark r (fun _=>rfl) (fun _=>rfl) (fun _=>rfl)
theorem San.bH(S:San D)(r:Int)(o:Option Th):San (D.bH r o):=by
 unfold Wd.bH
 split
 ·exact S
 ·split
  ·exact S
  ·split
   ·exact(S.settle r).touch r
   ·exact S.settle r
theorem San.flood(S:San D):San D.flood:=by
 unfold Wd.flood
 split
 ·split
  ·split
   ·rename_i b rest hr
    exact S.same_but rfl rfl rfl rfl (fun c hc=>.inl (by rw[hr];exact List.mem_cons_of_mem _ hc))
   ·exact(S.bH _ _).same_but rfl rfl rfl rfl (fun b hb=>.inl hb)
  ·exact S.jk _
 ·exact S
theorem gQ.bH(H:gQ D)(S:San D)(r:Int)(o:Option Th):gQ (D.bH r o):=by
 have hs:gQ (D.settle r):=H.mark S r (f:=fun m=>{m with shade:=D.parity,shadow:=D.shd r}) (fun _=>rfl) (fun _=>rfl)
 unfold Wd.bH
 split
 ·exact H
 ·split
  ·exact H
  ·split
   ·exact hs.touch (S.settle r) r
   ·exact hs
theorem gQ.flood(H:gQ D)(S:San D)(hF:0≤D.scanF):gQ D.flood:=by
 unfold Wd.flood
 cases hb:D.aZ with
 |false=>rw[if_neg (by decide)];exact H
 |true=>
  rw[if_pos rfl]
  have hp:D.phase≠0:=by
   unfold Wd.aZ at hb
   simp at hb
   omega
  by_cases hs:D.scan=0
  ·rw[if_pos hs]
   cases hr:D.ring with
   |nil=>exact(H.bH S _ _).same rfl rfl ⟨rfl,rfl,rfl⟩
   |cons b rest=>
    intro u hu h1 h2 i hi
    rcases H u hu h1 h2 i hi with h|h|h
    ·rw[hr] at h
     rcases List.mem_cons.1 h with h|h
     ·exact .inr (.inl ⟨by show(u.h:Int)+1=(b:Int)+1;rw[h],by show(0:Int)≤_;omega⟩)
     ·exact .inl h
    ·omega
    ·exact .inr (.inr h)
  ·rw[if_neg hs]
   unfold Wd.jv
   cases hf:D.find D.scan with
   |none=>
    simp only
    intro u hu h1 h2 i hi
    rcases H u hu h1 h2 i hi with h|h|h
    ·exact .inl h
    ·have:=S.findIt hu
     rw[h.1,hf] at this
     cases this
    ·exact .inr (.inr h)
   |some t=>
    simp only
    obtain⟨htl,er⟩:=find_live hf
    by_cases hff:D.scanF<(t.pt.length:Int)
    ·rw[if_pos hff]
     have H1:=H.touch S (nth t.pt D.scanF.toNat)
     have hsc:(D.touch (nth t.pt D.scanF.toNat)).scan=D.scan∧(D.touch (nth t.pt D.scanF.toNat)).scanF=D.scanF:=by
      unfold Wd.touch
      split<;>exact⟨rfl,rfl⟩
     intro u hu h1 h2 i hi
     rcases H1 u hu h1 h2 i hi with h|h|h
     ·exact .inl h
     ·rw[hsc.1,hsc.2] at h
      by_cases e:(i:Int)=D.scanF
      ·refine .inr (.inr ?_)
       have hut:u.pt=t.pt:=by
        obtain⟨k,hk⟩:=touch_mark D.scan hf (nth t.pt D.scanF.toNat)
        have h3:=(S.touch (nth t.pt D.scanF.toNat)).findIt hu
        rw[h.1,hk] at h3
        rw[←Option.some.inj h3]
       have hit:i=D.scanF.toNat:=by omega
       rw[hut,hit]
       exact zk S hp _
      ·refine .inr (.inl ⟨?_,?_⟩)
       ·show _=(D.touch (nth t.pt D.scanF.toNat)).scan
        rw[hsc.1]
        exact h.1
       ·show D.scanF+1≤(i:Int)
        omega
     ·exact .inr (.inr h)
    ·rw[if_neg hff]
     intro u hu h1 h2 i hi
     rcases H u hu h1 h2 i hi with h|h|h
     ·exact .inl h
     ·have h3:=S.findIt hu
      rw[h.1,hf] at h3
      rw[←Option.some.inj h3] at hi
      omega
     ·exact .inr (.inr h)
theorem gQ.end_(H:gQ D)(h1:D.phase=2)(hb:D.aZ=false):∀u,u∈D.live→u.mr.dead=false→u.mr.color=D.parity→∀i,i<u.pt.length→wY D (nth u.pt i):=fun u hu k1 k2 i hi=>by
 unfold Wd.aZ at hb
 rw[decide_eq_true h1] at hb
 simp at hb
 rcases H u hu k1 k2 i hi with h|h|h
 ·rw[hb.1.2] at h
  cases h
 ·omega
 ·exact h
theorem gQ.turn(h:∀t,t∈D.live→t.mr.color=0)(hp:D.parity=0):gQ (D.turn.begin 1):=fun u hu h1 h2 i hi=>by
 have h3:=h u hu
 have h4:(D.turn.begin 1).parity=1:=by
  show 1-D.parity=1
  rw[hp]
  rfl
 rw[h3,h4] at h2
 cases h2
end
theorem Rf:∀x:Nat,x<128→x ^^^ 16=if x/16%2=0 then x+16 else x-16:=by decide
theorem Od{x:Int}(hx:bW x)(hk:bg x):bits .xor .u32 x 16=dB x (uC x) (uN x) (1-uS x) (uD x):=by
 obtain⟨hr,h128,h0⟩:=hx
 unfold bB at hr
 unfold bg at hk
 have hlt:x<128:=by
  have h1:uO x=0:=by omega
  unfold uO at h1
  omega
 obtain⟨X,rfl⟩:=Int.eq_ofNat_of_zero_le h0
 rw[u32_xor _ _ (by omega) (by omega) (by omega) (by omega),Int.toNat_natCast,show(16:Int).toNat=16 from rfl,Rf X (by omega)]
 unfold dB bI uK uC uN uS uD uG
 split<;>omega
theorem GN{r:Int}{t:Th}{g:Th→Th}:∀{l:List Th},findL r l=some t→g t=t→updL r g l=l
 |u::l,h,hg=>by
  unfold findL at h
  unfold updL
  cases hu:u.at r with
  |true=>
   rw[hu] at h
   simp at h
   subst h
   rw[if_pos rfl,hg]
  |false=>
   rw[hu] at h
   simp at h
   rw[if_neg (by simp),GN h hg]
section
variable {c:Cf} {zs:List Int} {D:Wd} {t:Th} {r:Int}
theorem IP(hf:D.find r=some t)(h:t.mr.shade=D.parity):D.settle r=D:=by
 have hs:D.shd r=t.mr.shadow:=by unfold Wd.shd;rw[hf];simp only;rw[if_pos h]
 have:updL r (fun t=>{t with mr:={t.mr with shade:=D.parity,shadow:=D.shd r}}) D.ts=D.ts:=GN (t:=t) hf (by
  show({t with mr:={t.mr with shade:=D.parity,shadow:=D.shd r}}:Th)=t
  rw[hs,←h])
 show({D with ts:=updL r (fun t=>{t with mr:={t.mr with shade:=D.parity,shadow:=D.shd r}}) D.ts}:Wd)=D
 rw[this]
theorem tQ(hf:D.find r=some t):(D.settle r).find r=some {t with mr:={t.mr with shade:=D.parity,shadow:=D.shd r}}:=mark_find _ hf
theorem Fq(hf:D.find r=some t):(D.settle r).shd r=D.shd r:=by
 show(match(D.settle r).find r with|none=>0|some t=>if t.mr.shade=D.parity then t.mr.shadow else 0)=_
 rw[tQ hf]
 simp
theorem Fp(hf:D.find r=some t):(D.settle r).cnt r=t.mr.refs:=by
 unfold Wd.cnt
 rw[tQ hf]
theorem IY(R:au c zs D)(hz:Wz c zs)(hf:D.find r=some t)(hs:t.mr.shade≠D.parity):
  au c ((zs.set (adr c t.h 0) (dB (nth zs (adr c t.h 0)) (uC (nth zs (adr c t.h 0))) (uN (nth zs (adr c t.h 0))) (1-uS (nth zs (adr c t.h 0))) (uD (nth zs (adr c t.h 0))))).set (adr c t.h 4) 0) (D.settle r):=by
 obtain⟨h1,h2,h3,h4,h5⟩:=R.fI hf
 have hp:=R.par
 have h01:=(bv (nth zs (adr c t.h 0))).2.2.1
 have e1:1-uS (nth zs (adr c t.h 0))=D.parity:=by
  have:=h5.cS
  omega
 have es:D.shd r=0:=by unfold Wd.shd;rw[hf];simp only;rw[if_neg hs]
 rw[e1]
 have R1:=sK R hf hz (bv _).1 (bv _).2.1 R.par (.inl rfl) (fun m=>{m with shade:=D.parity}) (by simp only;rw[h5.cC,h5.cN,h5.yx])
 have R2:=R1.iW hz.may (by simp;exact hz.len) (mark_find _ hf) (v:=4) (.inr rfl) (x:=0) (f:=fun m=>{m with shadow:=0}) rfl
 rw[lC] at R2
 unfold Wd.settle
 rw[es]
 exact R2
theorem DC(R:au c zs D)(hz:Wz c zs){b:Nat}{rest:List Nat}(hr:D.ring=b::rest):au c (aL c b zs) {D with ring:=rest}:=by
 obtain⟨u,hu,e⟩:=R.uz hz.may (x:=b) (by rw[hr];exact List.mem_cons_self ..)
 have hf:=R.findIt hu
 have h:=wJ R hz hf (by rw[hr,e];exact List.mem_cons_self ..)
 have hnd:=R.ring.nd
 rw[hr,List.nodup_cons] at hnd
 have e2:D.lessRing u.h={D with ring:=rest}:=by
  unfold Wd.lessRing
  congr 1
  rw[hr,e,List.filter_cons_of_neg (by simp)]
  exact List.filter_eq_self.2 (fun x hx=>by
   have:x≠b:=fun e3=>hnd.1 (by rw[←e3];exact hx)
   simpa using this)
 rw[e2,e] at h
 exact h
theorem au.Ao(R:au c zs D)(hz:Wz c zs)(x:Int):au c (zs.set 14 x) {D with scan:=x}:=by
 refine R.jw hz.may hz.len (k:=14) (by omega) (by omega) rfl rfl rfl rfl rfl rfl rfl rfl (fun j h1 h2 h3=> ?_) R.par
 have:j=10∨j=11∨j=12∨j=13∨j=15∨j=16∨j=17∨j=18:=by omega
 rcases this with rfl|rfl|rfl|rfl|rfl|rfl|rfl|rfl<;>rfl
theorem au.Df(R:au c zs D)(hz:Wz c zs)(x:Int):au c (zs.set 15 x) {D with scanF:=x}:=by
 refine R.jw hz.may hz.len (k:=15) (by omega) (by omega) rfl rfl rfl rfl rfl rfl rfl rfl (fun j h1 h2 h3=> ?_) R.par
 have:j=10∨j=11∨j=12∨j=13∨j=14∨j=16∨j=17∨j=18:=by omega
 rcases this with rfl|rfl|rfl|rfl|rfl|rfl|rfl|rfl<;>rfl
theorem au.scans(R:au c zs D)(hz:Wz c zs):(0≤D.scan∧D.scan≤4294967295)∧0≤D.scanF∧D.scanF≤4294967295:=by
 have h1:=R.reg 14 (by omega) (by omega)
 have h2:=R.reg 15 (by omega) (by omega)
 have e1:D.reg 14=D.scan:=rfl
 have e2:D.reg 15=D.scanF:=rfl
 rw[e1] at h1
 rw[e2] at h2
 have b1:=hz.wf 14
 have b2:=hz.wf 15
 rw[←h1,←h2]
 exact⟨b1,b2⟩
end
structure bU (D D':Wd):Prop where
 par:D'.parity=D.parity
 sc:D.scan=0→D'.scan=0
 sf:0≤D.scanF→0≤D'.scanF
 mem:∀s,s∈D'.live→(s.mr.color=D.parity∧s.mr.count=D.parity)∨∃v,v∈D.live∧s.h=v.h∧(s.mr.dead=false→v.mr.dead=false)∧(v.mr.color=D.parity→s.mr.color=D.parity)∧(v.mr.count=D.parity→s.mr.count=D.parity)
def El(D:Wd):Prop:=∀u,u∈D.live→u.mr.count=D.parity
def VH(hold:Nat→Nat)(D:Wd):Prop:=∀u,u∈D.live→u.mr.dead=false→0<hold u.h→(u.h:Int)<D.cursor→u.mr.color=D.parity
section
variable {D D' D2:Wd} {t u v s:Th} {r x y:Int} {g:Th→Th} {E:Int→Prop} {hold hold':Nat→Nat}
theorem bU.refl(D:Wd):bU D D:=⟨rfl,fun h=>h,fun h=>h,fun s hs=>.inr ⟨s,hs,rfl,fun h=>h,fun h=>h,fun h=>h⟩⟩
theorem bU.trans(h:bU D D')(k:bU D' D2):bU D D2:=⟨k.par.trans h.par,fun e=>k.sc (h.sc e),fun e=>k.sf (h.sf e),fun s hs=>by
 rcases k.mem s hs with⟨a,b⟩|⟨v,hv,e1,e2,e3,e4⟩
 ·exact .inl ⟨a.trans h.par,b.trans h.par⟩
 ·rw[h.par] at e3 e4
  rcases h.mem v hv with⟨a,b⟩|⟨u,hu,f1,f2,f3,f4⟩
  ·exact .inl ⟨e3 a,e4 b⟩
  ·exact .inr ⟨u,hu,e1.trans f1,fun z=>f2 (e2 z),fun z=>e3 (f3 z),fun z=>e4 (f4 z)⟩⟩
theorem bU.same(h:D'.ts=D.ts)(hp:D'.parity=D.parity)(hs:D'.scan=D.scan)(hf:D'.scanF=D.scanF):bU D D':=by
 have hl:D'.live=D.live:=by unfold Wd.live;rw[h]
 refine⟨hp,fun e=>hs.trans e,fun e=>by rw[hf];exact e,fun s hs=> ?_⟩
 rw[hl] at hs
 exact .inr ⟨s,hs,rfl,fun h=>h,fun h=>h,fun h=>h⟩
theorem bU.upd(S:San D)(hf:D.find r=some t)(hts:D'.ts=updL r g D.ts)(hp:D'.parity=D.parity)(hs:D.scan=0→D'.scan=0)(hsf:D'.scanF=D.scanF)(hh:(g t).h=t.h)(h1:(g t).mr.dead=false→t.mr.dead=false)(h2:t.mr.color=D.parity→(g t).mr.color=D.parity)(h3:t.mr.count=D.parity→(g t).mr.count=D.parity):bU D D':=
 ⟨hp,hs,fun e=>by rw[hsf];exact e,fun s k=>by
  unfold Wd.live at k
  rw[hts] at k
  rcases aN S.nd hf k with rfl|⟨k,_⟩
  ·exact .inr ⟨t,(find_live hf).1,hh,h1,h2,h3⟩
  ·exact .inr ⟨s,k,rfl,fun h=>h,fun h=>h,fun h=>h⟩⟩
theorem bU.mark(S:San D)(r:Int){f:Mrk→Mrk}(h1:∀m,(f m).dead=false→m.dead=false)(h2:∀m,m.color=D.parity→(f m).color=D.parity)(h3:∀m,m.count=D.parity→(f m).count=D.parity):bU D (D.mark r f):=by
 cases hf:D.find r with
 |none=>rw[bA f hf];exact bU.refl D
 |some t=>exact bU.upd (g:=fun t=>{t with mr:=f t.mr}) S hf rfl rfl (fun h=>h) rfl rfl (h1 _) (h2 _) (h3 _)
theorem bU.touch(S:San D)(r:Int):bU D (D.touch r):=by
 unfold Wd.touch
 split
 ·exact(bU.mark S r (f:=fun m=>{m with color:=D.parity}) (fun _ h=>h) (fun _ _=>rfl) (fun _ h=>h)).trans (bU.same rfl rfl rfl rfl)
 ·exact bU.refl D
theorem bU.bury(S:San D)(x:Int):bU D (D.bury x):=by
 unfold Wd.bury
 cases hf:D.find x with
 |none=>exact bU.refl D
 |some t=>
  simp only
  split
  ·exact bU.refl D
  ·exact bU.upd (g:=fun s=>{s with mr:={s.mr with dead:=true,left:=(t.pt.length:Int),leaves:=(t.lv.length:Int)}}) S hf (lay_ts x t) rfl (fun h=>by
    show(if D.scan=x then 0 else D.scan)=0
    split
    ·rfl
    ·exact h) rfl rfl (fun h=>by cases h) (fun h=>h) (fun h=>h)
theorem bU.inter(S:San D)(x:Int):bU D (D.inter x):=by
 unfold Wd.inter
 split
 ·exact bU.bury S x
 ·exact bU.refl D
theorem bU.down(S:San D)(r:Int):bU D (D.down r):=bU.mark S r (f:=fun m=>{m with refs:=m.refs-1}) (fun _ h=>h) (fun _ h=>h) (fun _ h=>h)
theorem bU.up(S:San D)(r:Int):bU D (D.up r):=bU.mark S r (f:=fun m=>{m with refs:=m.refs+1}) (fun _ h=>h) (fun _ h=>h) (fun _ h=>h)
theorem bU.less(S:San D)(r:Int):bU D (D.less r):=((bU.down S r).trans (D2:=(D.down r).sus) (bU.same rfl rfl rfl rfl)).trans (bU.inter (D:=(D.down r).sus) (S.down r).sus r)
theorem bU.more(S:San D)(r:Int):bU D (D.more r):=(bU.up S r).trans (bU.touch (S.up r) r)
theorem bU.setP(S:San D)(hf:D.find r=some t)(i:Nat)(x:Int):bU D (D.setP r i x):=
 bU.upd (g:=fun t=>{t with pt:=t.pt.set i x}) S hf rfl rfl (fun h=>h) rfl rfl (fun h=>h) (fun h=>h) (fun h=>h)
theorem bU.lighten(S:San D)(x:Int):bU D (D.lighten x):=by
 unfold Wd.lighten
 split
 ·exact bU.mark S x (f:=fun m=>{m with shadow:=m.shadow-1}) (fun _ h=>h) (fun _ h=>h) (fun _ h=>h)
 ·exact bU.refl D
theorem bU.drain(S:San D)(hf:D.find r=some t)(i:Nat)(x:Int):bU D (D.drain r i x):=by
 have S1:=S.setP hf i (x:=0) (fun _=>rfl)
 have key:∀D2:Wd,San D2→bU D D2→bU D ((D2.down x).inter x):=fun D2 S2 H2=>(H2.trans (bU.down S2 x)).trans (bU.inter (S2.down x) x)
 unfold Wd.drain
 by_cases hc:(D.setP r i 0).cnt x=0
 ·rw[if_pos hc]
  exact bU.setP S hf i 0
 ·rw[if_neg hc]
  have K:San (if(D.setP r i 0).counted r i then(D.setP r i 0).lighten x else D.setP r i 0)∧bU D (if(D.setP r i 0).counted r i then(D.setP r i 0).lighten x else D.setP r i 0):=by
   split
   ·exact⟨S1.lighten x,(bU.setP S hf i 0).trans (bU.lighten S1 x)⟩
   ·exact⟨S1,bU.setP S hf i 0⟩
  exact key _ K.1 K.2
theorem bU.step(S:San D):bU D D.step:=by
 cases hg:D.grave with
 |nil=>rw[show D.step=D by unfold Wd.step;rw[hg]];exact bU.refl D
 |cons q rest=>
  obtain⟨t,htl,e,hf,hd,d,es⟩:=S.head hg
  rw[es]
  unfold Wd.work
  split
  ·exact(bU.drain S hf _ _).trans (bU.mark (S.drain hf _ _) _ (fun _ h=>h) (fun _ h=>h) (fun _ h=>h))
  ·split
   ·exact bU.upd (g:=fun s=>{s with lv:=s.lv.set (t.mr.leaves-1).toNat (-1),mr:={s.mr with leaves:=t.mr.leaves-1}}) S hf (cut_mark _ _ _ _) rfl (fun h=>h) rfl rfl (fun h=>h) (fun h=>h) (fun h=>h)
   ·have hlive:({({D with grave:=rest}:Wd).endAt (q:Int) t.h with pending:=D.pending-1}:Wd).live=D.live.filter (fun s=>s.h !=t.h):=live_upd_end (g:=fun s=>{s with ended:=true}) (fun _=>rfl) S.nd hf
    refine⟨rfl,fun h=>h,fun h=>h,fun s hs=> ?_⟩
    rw[hlive] at hs
    exact .inr ⟨s,(List.mem_filter.1 hs).1,rfl,fun h=>h,fun h=>h,fun h=>h⟩
theorem bU.born{N:Nat}(S:San D)(B:BornOk D x y N):bU D (D.born x y):=by
 unfold Wd.born
 by_cases hE:D.mkE x y=0
 ·rw[if_pos hE]
  have S1:=B.san S
  have eR:D.mkR x y=(D.mkB:Int)+1:=by unfold Wd.mkR;rw[if_pos hE]
  have eD:D.mkD x y=D.made D.mkB (D.clean.tail.take (D.mkN x y)) (D.clean.tail.drop (D.mkN x y)) x.toNat y.toNat:=by unfold Wd.mkD;rw[if_pos hE]
  have hlv:(D.mkD x y).live=D.live++[⟨D.mkB,ints (D.clean.tail.take (D.mkN x y)),zer x.toNat,zer y.toNat,false,Mrk.new⟩]:=by rw[eD,live_made]
  have hpar:(D.mkD x y).parity=D.parity∧(D.mkD x y).scan=D.scan∧(D.mkD x y).scanF=D.scanF:=by rw[eD];exact⟨rfl,rfl,rfl⟩
  have h1:bU D ((D.mkD x y).dye (D.mkR x y)):=by
   refine⟨hpar.1,fun h=>hpar.2.1.trans h,fun h=>by show 0≤(D.mkD x y).scanF;rw[hpar.2.2];exact h,fun s hs=> ?_⟩
   obtain⟨v,hv,e1,e2,h⟩:=bC S1 hs
   rw[hlv] at hv
   rcases h with⟨k1,k2⟩|⟨k1,k2⟩
   ·rw[k2]
    exact .inl ⟨hpar.1,hpar.1⟩
   ·rcases List.mem_append.1 hv with h|h
    ·rw[k2]
     exact .inr ⟨v,h,e1,fun h=>h,fun h=>h,fun h=>h⟩
    ·obtain rfl:=List.mem_singleton.1 h
     exact absurd eR.symm k1
  have S2:San ((D.mkD x y).dye (D.mkR x y)):=S1.mark _ (fun _=>rfl) (fun _=>rfl) (fun _=>rfl)
  exact h1.trans (bU.more S2 _)
 ·rw[if_neg hE]
  exact bU.refl D
theorem bU.put(S:San D)(hf:D.find r=some t)(hd:t.mr.dead=false)(i:Nat)(x y:Int):bU D (D.put r i x y):=by
 have h1:San (D.putS r i x)∧bU D (D.putS r i x):=by
  unfold Wd.putS
  by_cases hx0:x=0
  ·rw[if_pos hx0]
   exact⟨S.setP hf i (fun h=>by rw[hd] at h;cases h),bU.setP S hf i x⟩
  ·rw[if_neg hx0]
   obtain⟨m,hf1,hm1⟩:=more_find r hf x
   have S1:=S.more x
   exact⟨S1.setP hf1 i (fun h=>by have h:m.dead=true:=h;rw[hm1,hd] at h;cases h),(bU.more S x).trans (bU.setP S1 hf1 i x)⟩
 unfold Wd.put Wd.putY
 split
 ·exact(h1.2.trans (bU.touch h1.1 y)).trans (bU.less (h1.1.touch y) y)
 ·exact h1.2
theorem El.fwd(A:El D)(h:bU D D'):El D':=fun u hu=>by
 rw[h.par]
 rcases h.mem u hu with⟨_,k⟩|⟨v,hv,_,_,_,k⟩
 ·exact k
 ·exact k (A v hv)
theorem VH.fwd(V:VH hold D)(h:bU D D')(hc:D'.cursor=D.cursor)(hh:∀b,hold' b≤hold b):VH hold' D':=fun u hu h1 h2 h3=>by
 rw[h.par]
 rw[hc] at h3
 rcases h.mem u hu with⟨k,_⟩|⟨v,hv,e1,e2,e3,_⟩
 ·exact k
 ·rw[e1] at h2 h3
  exact e3 (V v hv (e2 h1) (Nat.lt_of_lt_of_le h2 (hh _)) h3)
theorem VH.more(V:VH hold D)(S:San D)(hp:D.phase≠0)(hh:∀h:Nat,hold' h=hold h+if(h:Int)+1=r then 1 else 0):VH hold' (D.more r):=fun u hu h1 h2 h3=>by
 by_cases e:(u.h:Int)+1=r
 ·exact(touched (D:=D.up r) (S.up r) hp u hu e h1).trans (eF (D:=D) r).1.symm
 ·have h:=bU.more S r
  rw[h.par]
  rw[(eF (D:=D) r).2.1] at h3
  rw[hh,if_neg e] at h2
  rcases h.mem u hu with⟨k,_⟩|⟨v,hv,e1,e2,e3,_⟩
  ·exact k
  ·rw[e1] at h2 h3
   exact e3 (V v hv (e2 h1) h2 h3)
theorem VH.born{N:Nat}(V:VH hold D)(S:San D)(B:BornOk D x y N)(hE:D.mkE x y=0)(hp:D.phase≠0)(hh:∀h:Nat,hold' h=hold h+if h=D.mkB then 1 else 0):VH hold' (D.born x y):=fun u hu h1 h2 h3=>by
 have h:=bU.born S B
 rw[h.par]
 rw[jd.2.1] at h3
 rcases h.mem u hu with⟨k,_⟩|⟨v,hv,e1,e2,e3,_⟩
 ·exact k
 ·have hne:=B.fresh hE v hv
  rw[hh,if_neg (by omega)] at h2
  rw[e1] at h2 h3
  exact e3 (V v hv (e2 h1) h2 h3)
theorem eX.cursor(H:eX E D)(A:El D)(k:Int):eX E {D with cursor:=k}:=by
 refine⟨fun s hs h1 h2 h3=> ?_,fun s hs _=>A s hs⟩
 have e:sumL (({D with cursor:=k}:Wd).ph ((s.h:Int)+1)) D.ts=sumL (D.ph ((s.h:Int)+1)) D.ts:=bY (fun u hu=>by
  show jf D.parity k D.field _ u=jf D.parity D.cursor D.field _ u
  unfold jf oW
  rw[if_pos (A u hu),if_pos (A u hu)])
 show sv D.parity s.mr=((sumL (({D with cursor:=k}:Wd).ph ((s.h:Int)+1)) D.ts:Nat):Int)
 rw[e]
 exact H.sh s hs h1 h2 h3
theorem eX.settle(H:eX E D)(S:San D)(r:Int):eX E (D.settle r):=by
 unfold Wd.settle
 cases hf:D.find r with
 |none=>rw[bA _ hf];exact H
 |some t=>
  obtain⟨htl,er⟩:=find_live hf
  refine H.upd (E':=E) (g:=fun u=>{u with mr:={u.mr with shade:=D.parity,shadow:=D.shd r}}) S hf rfl ⟨rfl,rfl,rfl,rfl⟩ (find_at hf).2.1 rfl (fun q _ _=>pW rfl) (fun h=>h) (fun h1 h2 h3=>⟨h1,h2,h3,?_⟩) (fun _ h=>h)
  have:=wu S htl
  rw[er] at this
  unfold sv at this ⊢
  rw[if_pos rfl]
  exact this
theorem eX.bH(H:eX E D)(S:San D)(r:Int)(o:Option Th):eX E (D.bH r o):=by
 unfold Wd.bH
 split
 ·exact H
 ·split
  ·exact H
  ·split
   ·exact(H.settle S r).touch (S.settle r) r
   ·exact H.settle S r
theorem bU.settle(S:San D)(r:Int):bU D (D.settle r):=bU.mark S r (f:=fun m=>{m with shade:=D.parity,shadow:=D.shd r}) (fun _ h=>h) (fun _ h=>h) (fun _ h=>h)
theorem bU.bH(S:San D)(r:Int)(o:Option Th):bU D (D.bH r o):=by
 unfold Wd.bH
 split
 ·exact bU.refl D
 ·split
  ·exact bU.refl D
  ·split
   ·exact(bU.settle S r).trans (bU.touch (S.settle r) r)
   ·exact bU.settle S r
theorem rT(r:Int)(o:Option Th):lT D (D.bH r o):=by
 unfold Wd.bH
 split
 ·exact lT.refl D
 ·split
  ·exact lT.refl D
  ·split
   ·exact lT.trans (D':=D.settle r) ⟨rfl,rfl,rfl,rfl⟩ (eP r)
   ·exact⟨rfl,rfl,rfl,rfl⟩
structure FL (hold:Nat→Nat) (D:Wd):Prop where
 ho:eX (fun _=>False) D
 tri:gQ D
 al:El D
 vh:VH hold D
 sf:0≤D.scanF
theorem FL.flood(F:FL hold D)(S:San D)(N:Nam hold D)(hk:0≤D.cursor):FL hold D.flood:=by
 have ht:=F.tri.flood S F.sf
 unfold Wd.flood at ht ⊢
 cases hb:D.aZ with
 |false=>rw[if_neg (by decide)];exact F
 |true=>
  rw[hb,if_pos rfl] at ht
  rw[if_pos rfl]
  have hp:D.phase=2:=by
   unfold Wd.aZ at hb
   simp at hb
   exact hb.1
  by_cases hs:D.scan=0
  ·rw[if_pos hs] at ht ⊢
   cases hr:D.ring with
   |cons b rest=>
    rw[hr] at ht
    exact⟨F.ho.same rfl ⟨rfl,rfl,rfl,rfl⟩,ht,F.al,F.vh,by show(0:Int)≤0;decide⟩
   |nil=>
    rw[hr] at ht
    have hA:=F.al.fwd (bU.bH S (D.cursor+1) (D.find (D.cursor+1)))
    have hH:=(F.ho.bH S (D.cursor+1) (D.find (D.cursor+1))).cursor hA (D.cursor+1)
    refine⟨hH,ht,hA,?_,(bU.bH S _ _).sf F.sf⟩
    intro u hu h1 h2 h3
    have h3:(u.h:Int)<D.cursor+1:=h3
    have hu:u∈(D.bH (D.cursor+1) (D.find (D.cursor+1))).live:=hu
    show u.mr.color=(D.bH (D.cursor+1) (D.find (D.cursor+1))).parity
    rw[(bU.bH S (D.cursor+1) (D.find (D.cursor+1))).par]
    by_cases e:(u.h:Int)=D.cursor
    ·cases hf:D.find (D.cursor+1) with
     |none=>
      exfalso
      rw[hf] at hu
      have hu:u∈D.live:=hu
      have:=S.findIt hu
      rw[e,hf] at this
      cases this
     |some t=>
      obtain⟨htl,er⟩:=find_live hf
      rw[hf] at hu
      unfold Wd.bH at hu
      simp only at hu
      by_cases hd:t.mr.dead=true
      ·exfalso
       rw[if_pos hd] at hu
       have e9:u=t:=S.theOne htl hu (by omega)
       rw[←e9,h1] at hd
       cases hd
      ·rw[if_neg hd] at hu
       have hsum:sumL (D.ph ((t.h:Int)+1)) D.ts=sumL (nmT ((t.h:Int)+1)) D.ts:=bY (fun v hv=>by
        show jf D.parity D.cursor D.field _ v=_
        unfold jf oW nmT
        rw[if_pos (F.al v hv),List.take_length])
       have hcnt:=N.cnt t htl
       have hut:u.h=t.h:=by omega
       rw[hut] at h2
       by_cases hcl:t.mr.color=D.parity
       ·have h9:=(bU.bH S (D.cursor+1) (some t)).mem u (by unfold Wd.bH;simp only;rw[if_neg hd];exact hu)
        rcases h9 with⟨k,_⟩|⟨v,hv,e1,_,e3,_⟩
        ·exact k
        ·exact e3 (by rw[S.theOne htl hv (by omega)];exact hcl)
       ·have hsv:=F.ho.sh t htl (fun h=>h) (by cases h:t.mr.dead;rfl;exact absurd h hd) hcl
        have hsh:=wu S htl
        rw[er] at hsh
        have hlt:D.shd (D.cursor+1)<t.mr.refs:=by
         rw[hsh,hsv,hsum,hcnt]
         omega
        rw[if_pos hlt] at hu
        have h9:=touched (D:=D.settle (D.cursor+1)) (S.settle _) (by show D.phase≠0;omega) u hu (by omega) h1
        exact h9
    ·rcases (bU.bH S (D.cursor+1) (D.find (D.cursor+1))).mem u hu with⟨k,_⟩|⟨v,hv,e1,e2,e3,_⟩
     ·exact k
     ·exact e3 (F.vh v hv (e2 h1) (by rw[←e1];exact h2) (by omega))
  ·rw[if_neg hs] at ht ⊢
   unfold Wd.jv at ht ⊢
   cases hf:D.find D.scan with
   |none=>
    rw[hf] at ht
    simp only at ht ⊢
    exact⟨F.ho.same rfl ⟨rfl,rfl,rfl,rfl⟩,ht,F.al,F.vh,F.sf⟩
   |some t=>
    rw[hf] at ht
    simp only at ht ⊢
    by_cases hff:D.scanF<(t.pt.length:Int)
    ·rw[if_pos hff] at ht ⊢
     have hw:=bU.touch S (nth t.pt D.scanF.toNat)
     exact⟨(F.ho.touch S _).same rfl ⟨rfl,rfl,rfl,rfl⟩,ht,(show El (D.touch (nth t.pt D.scanF.toNat)) from F.al.fwd hw),VH.fwd (D':={D.touch (nth t.pt D.scanF.toNat) with scanF:=D.scanF+1}) (F.vh.fwd hw (eP _).2.1 (fun _=>Nat.le_refl _)) ⟨rfl,fun h=>h,fun h=>by show 0≤D.scanF+1;have:=F.sf;omega,fun s hs=>.inr ⟨s,hs,rfl,fun h=>h,fun h=>h,fun h=>h⟩⟩ rfl (fun _=>Nat.le_refl _),by show 0≤D.scanF+1;have:=F.sf;omega⟩
    ·rw[if_neg hff] at ht ⊢
     exact⟨F.ho.same rfl ⟨rfl,rfl,rfl,rfl⟩,ht,F.al,F.vh,F.sf⟩
theorem tq:D.flood.phase=D.phase∧D.flood.parity=D.parity∧D.flood.field=D.field:=by
 unfold Wd.flood
 split
 ·split
  ·split
   ·exact⟨rfl,rfl,rfl⟩
   ·exact⟨(rT _ _).2.2.2,(rT _ _).1,(rT _ _).2.2.1⟩
  ·unfold Wd.jv
   split
   ·exact⟨rfl,rfl,rfl⟩
   ·split
    ·exact⟨(eP _).2.2.2,(eP _).1,(eP _).2.2.1⟩
    ·exact⟨rfl,rfl,rfl⟩
 ·exact⟨rfl,rfl,rfl⟩
def jm(D:Wd):Prop:=bu D∧∀t,t∈D.ts→t.mr.color=0
inductive FM (hold:Nat→Nat) (D:Wd):Prop where
 |idle:D.phase=0→jm D→FM hold D
 |cnt:D.phase=1→eX (fun _=>False) D→gQ D→D.scan=0→FM hold D
 |fl:D.phase=2→FL hold D→FM hold D
theorem FL.fwd(F:FL hold D)(h1:eX (fun _=>False) D')(h2:gQ D')(h:bU D D')(hc:D'.cursor=D.cursor)(hh:∀b,hold' b≤hold b):FL hold' D':=⟨h1,h2,F.al.fwd h,F.vh.fwd h hc hh,h.sf F.sf⟩
theorem jm.touch(h:jm D)(r:Int):jm (D.touch r):=by
 refine⟨h.1.touch r,?_⟩
 rcases touch_ts (D:=D) r with k|k
 ·rw[k]
  exact h.2
 ·rw[k]
  exact iI (P:=fun t=>t.mr.color=0) (g:=fun t=>{t with mr:={t.mr with color:=D.parity}}) (fun t _=>h.1.1) r h.2
theorem jm.upd(h:jm D)(hd:bu D')(k:D'.ts=updL r g D.ts)(hg:∀t,(g t).mr.color=t.mr.color):jm D':=⟨hd,by rw[k];exact iI (P:=fun t=>t.mr.color=0) (fun t ht=>by rw[hg];exact ht) r h.2⟩
theorem jm.bury(h:jm D)(x:Int):jm (D.bury x):=by
 have hd:=h.1.bury x
 unfold Wd.bury at hd ⊢
 split
 ·exact h
 ·rename_i t hf
  rw[hf] at hd
  simp only at hd
  split
  ·exact h
  ·rename_i hn
   rw[if_neg hn] at hd
   exact h.upd (g:=fun s=>{s with mr:={s.mr with dead:=true,left:=(t.pt.length:Int),leaves:=(t.lv.length:Int)}}) hd (lay_ts x _) (fun _=>rfl)
theorem jm.inter(h:jm D)(x:Int):jm (D.inter x):=by
 unfold Wd.inter
 split
 ·exact h.bury x
 ·exact h
theorem jm.up(h:jm D)(x:Int):jm (D.up x):=h.upd (r:=x) (g:=fun t=>{t with mr:={t.mr with refs:=t.mr.refs+1}}) (h.1.mark x (f:=fun m=>{m with refs:=m.refs+1}) (fun m hm=>hm)) rfl (fun _=>rfl)
theorem jm.down(h:jm D)(x:Int):jm (D.down x):=h.upd (r:=x) (g:=fun t=>{t with mr:={t.mr with refs:=t.mr.refs-1}}) (h.1.mark x (f:=fun m=>{m with refs:=m.refs-1}) (fun m hm=>hm)) rfl (fun _=>rfl)
theorem jm.more(h:jm D)(x:Int):jm (D.more x):=(h.up x).touch x
theorem jm.less(h:jm D)(x:Int):jm (D.less x):=jm.inter (D:=(D.down x).sus) ⟨(h.down x).1.same rfl rfl,(h.down x).2⟩ x
theorem jm.setP(h:jm D)(r:Int)(i:Nat)(x:Int):jm (D.setP r i x):=h.upd (g:=fun t=>{t with pt:=t.pt.set i x}) (h.1.setP r i x) rfl (fun _=>rfl)
theorem jm.put(h:jm D)(r:Int)(i:Nat)(x y:Int):jm (D.put r i x y):=by
 have h1:jm (D.putS r i x):=by
  unfold Wd.putS
  split
  ·exact h.setP r i x
  ·exact(h.more x).setP r i x
 unfold Wd.put Wd.putY
 split
 ·exact(h1.touch y).less y
 ·exact h1
theorem jm.mkD(h:jm D)(x y:Int):jm (D.mkD x y):=by
 refine⟨h.1.mkD x y,?_⟩
 unfold Wd.mkD
 by_cases hE:D.mkE x y=0
 ·rw[if_pos hE]
  intro t ht
  rcases List.mem_append.1 (show t∈D.ts++[_] from ht) with ht|ht
  ·exact h.2 t ht
  ·obtain rfl:=List.mem_singleton.1 ht
   rfl
 ·rw[if_neg hE]
  exact h.2
theorem jm.dye(h:jm D)(r:Int):jm (D.dye r):=⟨h.1.dye r,iI (P:=fun t=>t.mr.color=0) (g:=fun t=>{t with mr:={t.mr with color:=D.parity,count:=D.parity,shade:=D.parity,shadow:=0}}) (fun t _=>h.1.1) r h.2⟩
theorem jm.born(h:jm D)(x y:Int):jm (D.born x y):=by
 unfold Wd.born
 split
 ·exact((h.mkD x y).dye _).more _
 ·exact h
theorem jm.drain(h:jm D)(r:Int)(i:Nat)(x:Int):jm (D.drain r i x):=by
 have key:∀D2:Wd,jm D2→jm ((D2.down x).inter x):=fun D2 h=>(h.down x).inter x
 unfold Wd.drain
 by_cases hc:(D.setP r i 0).cnt x=0
 ·rw[if_pos hc]
  exact h.setP r i 0
 ·rw[if_neg hc]
  refine key _ ?_
  split
  ·unfold Wd.lighten
   split
   ·exact(h.setP r i 0).upd (r:=x) (g:=fun t=>{t with mr:={t.mr with shadow:=t.mr.shadow-1}}) ((h.setP r i 0).1.mark x (f:=fun m=>{m with shadow:=m.shadow-1}) (fun m hm=>hm)) rfl (fun _=>rfl)
   ·exact h.setP r i 0
  ·exact h.setP r i 0
theorem jm.step(h:jm D):jm D.step:=by
 have hd:=h.1.step
 unfold Wd.step at hd ⊢
 split
 ·exact h
 ·rename_i q rest hg
  rw[hg] at hd
  simp only at hd
  split
  ·exact h
  ·rename_i t hf
   rw[hf] at hd
   simp only at hd
   unfold Wd.work at hd ⊢
   split
   ·rename_i ha
    rw[if_pos ha] at hd
    exact(h.drain _ _ _).upd (g:=fun u=>{u with mr:={u.mr with left:=t.mr.left-1}}) hd rfl (fun _=>rfl)
   ·rename_i ha
    rw[if_neg ha] at hd
    split
    ·rename_i hl
     rw[if_pos hl] at hd
     exact h.upd hd (cut_mark _ _ _ _) (fun _=>rfl)
    ·rename_i hl
     rw[if_neg hl] at hd
     exact h.upd (g:=fun s=>{s with ended:=true}) hd rfl (fun _=>rfl)
theorem FM.less(T:FM hold D)(S:San D)(r:Int)(hh:∀b,hold' b≤hold b):FM hold' (D.less r):=by
 rcases T with⟨h,k⟩|⟨h,k,k2,k3⟩|⟨h,F⟩
 ·exact .idle ((iD r).2.2.2.trans h) (k.less r)
 ·exact .cnt ((iD r).2.2.2.trans h) (k.less S r) (k2.less S r) ((bU.less S r).sc k3)
 ·exact .fl ((iD r).2.2.2.trans h) (F.fwd (F.ho.less S r) (F.tri.less S r) (bU.less S r) (iD r).2.1 hh)
theorem FM.more(T:FM hold D)(S:San D)(hh:∀h:Nat,hold' h=hold h+if(h:Int)+1=r then 1 else 0):FM hold' (D.more r):=by
 rcases T with⟨h,k⟩|⟨h,k,k2,k3⟩|⟨h,F⟩
 ·exact .idle ((eF r).2.2.2.trans h) (k.more r)
 ·exact .cnt ((eF r).2.2.2.trans h) (k.more S r) (k2.more S r) ((bU.more S r).sc k3)
 ·exact .fl ((eF r).2.2.2.trans h) ⟨F.ho.more S r,F.tri.more S r,F.al.fwd (bU.more S r),F.vh.more S (by omega) hh,(bU.more S r).sf F.sf⟩
theorem FM.put(T:FM hold D)(S:San D)(N:Nam hold D)(hf:D.find r=some t)(hd:t.mr.dead=false){i:Nat}(hi:i<t.pt.length):FM hold (D.put r i x (nth t.pt i)):=by
 rcases T with⟨h,k⟩|⟨h,k,k2,k3⟩|⟨h,F⟩
 ·exact .idle ((kM _ _ _ _).2.2.2.trans h) (k.put _ _ _ _)
 ·exact .cnt ((kM _ _ _ _).2.2.2.trans h) (k.put S N (by omega) hf hd hi) (k2.put S (by omega) hf hd hi) ((bU.put S hf hd i x _).sc k3)
 ·exact .fl ((kM _ _ _ _).2.2.2.trans h) (F.fwd (F.ho.put S N (by omega) hf hd hi) (F.tri.put S (by omega) hf hd hi) (bU.put S hf hd i x _) (kM _ _ _ _).2.1 (fun _=>Nat.le_refl _))
theorem FM.born{N:Nat}(T:FM hold D)(S:San D)(B:BornOk D x y N)(hE:D.mkE x y=0)(hh:∀h:Nat,hold' h=hold h+if h=D.mkB then 1 else 0):FM hold' (D.born x y):=by
 rcases T with⟨h,k⟩|⟨h,k,k2,k3⟩|⟨h,F⟩
 ·exact .idle (jd.2.2.2.trans h) (k.born x y)
 ·exact .cnt (jd.2.2.2.trans h) (k.born S B) (k2.born S B) ((bU.born S B).sc k3)
 ·exact .fl (jd.2.2.2.trans h) ⟨F.ho.born S B,F.tri.born S B,F.al.fwd (bU.born S B),F.vh.born S B hE (by omega) hh,(bU.born S B).sf F.sf⟩
theorem FM.step(T:FM hold D)(S:San D)(N:Nam hold D)(hF:0≤D.field):FM hold D.step:=by
 rcases T with⟨h,k⟩|⟨h,k,k2,k3⟩|⟨h,F⟩
 ·exact .idle (jl.2.2.2.trans h) k.step
 ·exact .cnt (jl.2.2.2.trans h) (k.step S N (.inl h) hF) (k2.step S) ((bU.step S).sc k3)
 ·exact .fl (jl.2.2.2.trans h) (F.fwd (F.ho.step S N (.inr ⟨h,F.al⟩) hF) (F.tri.step S) (bU.step S) jl.2.1 (fun _=>Nat.le_refl _))
theorem wG:D.tally.scan=D.scan:=by
 unfold Wd.tally
 split
 ·unfold Wd.tallyAt
  split
  ·rfl
  ·split
   ·rfl
   ·split<;>rfl
 ·rfl
theorem FM.tally(T:FM hold D)(S:San D)(hF:0≤D.field):FM hold D.tally:=by
 rcases T with⟨h,k⟩|⟨h,k,k2,k3⟩|⟨h,F⟩
 ·rw[mQ (wF (by omega))]
  exact .idle h k
 ·exact .cnt (kQ.1.trans h) (k.tally S hF) (k2.tally S) (wG.trans k3)
 ·rw[mQ (wF (by omega))]
  exact .fl h F
theorem jT(h:D.aZ=false):D.flood=D:=by unfold Wd.flood;rw[h];rfl
theorem uY(h:D.phase≠2):D.aZ=false:=by unfold Wd.aZ;rw[decide_eq_false h];rfl
theorem FM.flood(T:FM hold D)(S:San D)(N:Nam hold D)(hk:0≤D.cursor):FM hold D.flood:=by
 rcases T with⟨h,k⟩|⟨h,k,k2,k3⟩|⟨h,F⟩
 ·rw[jT (uY (by omega))]
  exact .idle h k
 ·rw[jT (uY (by omega))]
  exact .cnt h k k2 k3
 ·exact .fl (tq.1.trans h) (F.flood S N hk)
theorem FM.OG{N:Nat}(T:FM hold D)(h0:D.phase=1)(hn:D.n=N)(hb:D.bf=false)(hlt:∀t,t∈D.live→t.h<N):FM hold (D.begin 2):=by
 rcases T with⟨h,k⟩|⟨h,k,k2,k3⟩|⟨h,F⟩
 ·omega
 ·have hcu:(D.n:Int)≤D.cursor:=by
   unfold Wd.bf at hb
   rw[decide_eq_true h0] at hb
   simp at hb
   exact hb
  have A:El D:=fun u hu=>k.ct u hu (by have:=hlt u hu;omega)
  refine .fl rfl ⟨⟨fun s hs h1 h2 h3=> ?_,fun s hs _=>A s hs⟩,fun u hu h1 h2 i hi=> ?_,A,fun u hu _ _ h3=> ?_,by show(0:Int)≤0;decide⟩
  ·have e:sumL ((D.begin 2).ph ((s.h:Int)+1)) D.ts=sumL (D.ph ((s.h:Int)+1)) D.ts:=bY (fun u hu=>by
    show jf D.parity 0 0 _ u=jf D.parity D.cursor D.field _ u
    unfold jf oW
    rw[if_pos (A u hu),if_pos (A u hu)])
   show sv D.parity s.mr=((sumL ((D.begin 2).ph ((s.h:Int)+1)) D.ts:Nat):Int)
   rw[e]
   exact k.sh s hs h1 h2 h3
  ·rcases k2 u hu h1 h2 i hi with h|h|h
   ·exact .inl h
   ·omega
   ·exact .inr (.inr h)
  ·have h3:(u.h:Int)<0:=h3
   omega
 ·omega
theorem FM.end_{N:Nat}(T:FM hold D)(h1:D.phase=2)(hn:D.n=N)(hb:D.aZ=false)(hlt:∀t,t∈D.live→t.h<N):
  (∀u,u∈D.live→u.mr.dead=false→0<hold u.h→u.mr.color=D.parity)∧∀u,u∈D.live→u.mr.dead=false→u.mr.color=D.parity→∀i,i<u.pt.length→wY D (nth u.pt i):=by
 rcases T with⟨h,k⟩|⟨h,k,k2,k3⟩|⟨h,F⟩
 ·omega
 ·omega
 ·refine⟨fun u hu k1 k2=>F.vh u hu k1 k2 ?_,F.tri.end_ h1 hb⟩
  unfold Wd.aZ at hb
  rw[decide_eq_true h1] at hb
  simp at hb
  have:=hlt u hu
  omega
end
section
variable {c:Cf} {zs:List Int} {D:Wd} {t:Th} {r:Int}
theorem Ik(hf:D.find r=some t):Does c D 184 [.int .i64 r] 4 (D.settle r) (.tuple #[]):=fun zs hz R=>by
 obtain⟨h1,h2,h3,h4,h5⟩:=R.fI hf
 obtain⟨htl,er⟩:=find_live hf
 have hlt:=R.hlt htl
 have hwf:=hz.wf (adr c t.h 0)
 have C1:Run c 95 [] zs 1 zs (.int .i64 D.parity):=fun p m w hG=>aT hG _ (R.reg 10 (by omega) (by omega))
 subst er
 by_cases hs:t.mr.shade=D.parity
 ·rw[IP hf hs]
  exact⟨zs,⟨2,by omega,uX hlt hz.may rfl hwf.1 hwf.2 (by rw[h5.cS];exact hs) C1⟩,R⟩
 ·have ok:=mD h1 h2 (bv (nth zs (adr c t.h 0))).1 (bv (nth zs (adr c t.h 0))).2.1 (show 1-uS (nth zs (adr c t.h 0))=0∨1-uS (nth zs (adr c t.h 0))=1 by have:=(bv (nth zs (adr c t.h 0))).2.2.1;omega) (bv (nth zs (adr c t.h 0))).2.2.2
  obtain⟨_,_,_,_,_,_,_,y0,y1⟩:=ok
  exact⟨_,⟨4,by omega,xh hlt hz.may rfl hwf.1 hwf.2 (by rw[h5.cS];exact hs) (Od h1 h2) y0 y1 C1⟩,IY R hz hf hs⟩
theorem EE(h:D.scan=0):Does c D 138 [] 1 D (.bool false):=fun zs hz R=>
 ⟨zs,⟨1,by omega,Ew ((R.reg 14 (by omega) (by omega)).trans h)⟩,R⟩
theorem MQ(S:San D)(h:D.scan≠0):Does c D 138 [] 44 (D.jv (D.find D.scan)) (.bool true):=fun zs hz R=>by
 have h14:nth zs 14=D.scan:=R.reg 14 (by omega) (by omega)
 have h15:nth zs 15=D.scanF:=R.reg 15 (by omega) (by omega)
 obtain⟨⟨s0,s1⟩,f0,f1⟩:=R.scans hz
 have h64:In64 D.scan:=by constructor<;>omega
 have hob:=obAt_find R D.scan
 cases hf:D.find D.scan with
 |none=>
  rw[hf] at hob
  obtain⟨d1,hd1,C1⟩:=objFns.qy c zs D.clean D.obs D.scan hz R.heap h64 hob
  exact⟨_,⟨1+1+d1+1,by omega,sW h14 h h15 f0 C1⟩,R.Ao hz 0⟩
 |some t=>
  rw[hf] at hob
  obtain⟨d1,hd1,C1⟩:=objFns.iC c zs D.clean D.obs D.scan t.ob hz R.heap hob
  unfold Wd.jv
  simp only
  by_cases hff:D.scanF<(t.pt.length:Int)
  ·rw[if_pos hff]
   obtain⟨j,hj⟩:=Int.eq_ofNat_of_zero_le f0
   have hjl:j<t.pt.length:=by omega
   have hjn:D.scanF.toNat=j:=by omega
   have hsz:=(R.szt hz.may S (find_live hf).1).small
   obtain⟨x64,e,d2,hd2,C2⟩:=Gf S hz R hf hjl
   obtain⟨zs3,⟨d3,hd3,C3⟩,R3,hz3⟩:=(tintFns.touch c D (nth t.pt j) x64).at hz R
   rw[hjn]
   rw[hj] at h15 ⊢
   exact⟨_,⟨1+1+d1+d2+d3+1,by omega,ME h14 h h15 (by omega) (by omega) (show(j:Int)<(t.ob.np:Int) by show(j:Int)<(t.pt.length:Int);omega) C1 C2 C3⟩,R3.Df hz3 _⟩
  ·rw[if_neg hff]
   exact⟨_,⟨1+1+d1+1,by omega,sW h14 h h15 (show(t.ob.np:Int)≤D.scanF by show(t.pt.length:Int)≤D.scanF;omega) C1⟩,R.Ao hz 0⟩
theorem zR(h:D.ring=[]):Does c D 139 [] 26 D (.bool false):=fun zs hz R=>by
 have hr:=R.ring
 rw[h] at hr
 obtain⟨d1,hd1,C1⟩:=Gz.take_no c zs hz hr
 exact⟨zs,⟨d1,by omega,zD C1⟩,R⟩
theorem Ii{b:Nat}{rest:List Nat}(h:D.ring=b::rest):Does c D 139 [] 26 {D with ring:=rest,scan:=(b:Int)+1,scanF:=0} (.bool true):=fun zs hz R=>by
 have hr:=R.ring
 rw[h] at hr
 have A:=Gz.take_yes c zs rest b hz hr
 have hz1:=A.wz hz
 obtain⟨d1,hd1,C1⟩:=A
 have hb:b<c.N:=hr.lt b (List.mem_cons_self ..)
 have hmn:=hz.may.n
 have R1:=DC R hz h
 have R2:=R1.Ao hz1 ((b:Int)+1)
 have R3:=R2.Df (hz1.set 14 (by omega) (by omega)) 0
 exact⟨_,⟨d1+1+1,by omega,Hw (by omega) C1⟩,R3⟩
theorem KF{D':Wd}(h:D'.field=D.field)(k:Int):D'.move k D.field={D' with cursor:=k}:=by
 unfold Wd.move
 rw[←h]
theorem MP(S:San D)(h:D.cursor<(D.n:Int)):Does c D 140 [] 42 D.zV (.bool true):=fun zs hz R=>by
 have hm:=hz.may
 have hmn:=hm.n
 have hN:=R.n
 obtain⟨⟨k0,k1⟩,f0,f1⟩:=R.curs hz
 have hk':D.cursor<(c.N:Int):=by rw[←hN];exact h
 have hr:In64 (D.cursor+1):=by constructor<;>omega
 obtain⟨zs1,⟨d1,hd1,C1⟩,R1,hz1⟩:=(tintFns.at_ c D).at hz R
 obtain⟨zs2,⟨d2,hd2,C2⟩,R2,hz2⟩:=(Gd (c:=c) (D:=D) hr).at hz1 R1
 have hfin:∀D':Wd,D'.field=D.field→Does c D' 53 [.int .i64 (D.cursor+1),.int .i64 D.field] 2 {D' with cursor:=D.cursor+1} (.bool true):=fun D' hD=>by
  have:=iZ (c:=c) (D:=D') (x:=D.cursor+1) (y:=D.field) (by omega) (by omega) f0 f1
  rwa[KF hD] at this
 unfold Wd.zV
 cases hf:D.find (D.cursor+1) with
 |none=>
  rw[hf] at C2
  obtain⟨zs3,⟨d3,hd3,C3⟩,R3,hz3⟩:=(hfin D rfl).at hz2 R2
  exact⟨zs3,⟨d1+d2+d3,by omega,zG k0 hk' hm C1 C2 C3⟩,R3⟩
 |some t=>
  rw[hf] at C2
  obtain⟨zs3,⟨d3,hd3,C3⟩,R3,hz3⟩:=(tintFns.dead c D (D.cursor+1) hr).at hz2 R2
  have hdd:D.dead (D.cursor+1)=t.mr.dead:=by unfold Wd.dead;rw[hf]
  rw[hdd] at C3
  unfold Wd.bH
  simp only
  by_cases hd:t.mr.dead=true
  ·rw[hd] at C3
   rw[if_pos hd]
   obtain⟨zs4,⟨d4,hd4,C4⟩,R4,hz4⟩:=(hfin D rfl).at hz3 R3
   exact⟨zs4,⟨d1+d2+d3+d4,by omega,zF k0 hk' hm C1 C2 C3 C4⟩,R4⟩
  ·have hdf:t.mr.dead=false:=by cases h:t.mr.dead;rfl;exact absurd h hd
   rw[hdf] at C3
   rw[if_neg hd]
   obtain⟨zs4,⟨d4,hd4,C4⟩,R4,hz4⟩:=(Ik (c:=c) hf).at hz3 R3
   obtain⟨zs5,⟨d5,hd5,C5⟩,R5,hz5⟩:=(zH (c:=c) (D:=D.settle (D.cursor+1)) hr).at hz4 R4
   obtain⟨zs6,⟨d6,hd6,C6⟩,R6,hz6⟩:=(tintFns.shadow c (D.settle (D.cursor+1)) (D.cursor+1) hr).at hz5 R5
   rw[Fp hf] at C5
   rw[Fq hf] at C6
   by_cases hlt:D.shd (D.cursor+1)<t.mr.refs
   ·rw[if_pos hlt]
    obtain⟨zs7,⟨d7,hd7,C7⟩,R7,hz7⟩:=(tintFns.touch c (D.settle (D.cursor+1)) (D.cursor+1) hr).at hz6 R6
    obtain⟨zs8,⟨d8,hd8,C8⟩,R8,hz8⟩:=(hfin ((D.settle (D.cursor+1)).touch (D.cursor+1)) (eP (D:=D.settle (D.cursor+1)) _).2.2.1).at hz7 R7
    exact⟨zs8,⟨d1+d2+d3+d4+d5+d6+d7+d8,by omega,Ev k0 hk' hm hlt C1 C2 C3 C4 C5 C6 C7 C8⟩,R8⟩
   ·rw[if_neg hlt]
    obtain⟨zs7,⟨d7,hd7,C7⟩,R7,hz7⟩:=(hfin (D.settle (D.cursor+1)) rfl).at hz6 R6
    exact⟨zs7,⟨d1+d2+d3+d4+d5+d6+d7,by omega,BO k0 hk' hm (by omega) C1 C2 C3 C4 C5 C6 C7⟩,R7⟩
theorem ED(h:¬D.cursor<(D.n:Int)):Does c D 140 [] 42 D (.bool false):=fun zs hz R=>by
 have hN:=R.n
 obtain⟨zs1,⟨d1,hd1,C1⟩,R1,hz1⟩:=(tintFns.at_ c D).at hz R
 exact⟨zs1,⟨d1,by omega,BN (by rw[←hN];omega) C1⟩,R1⟩
theorem Kr(S:San D):Does c D 77 [] 96 D.flood (.bool D.aZ):=fun zs hz R=>by
 obtain⟨zs1,⟨d1,hd1,C1⟩,R1,hz1⟩:=(tintFns.phase c D).at hz R
 by_cases hp:D.phase=2
 ·rw[hp] at C1
  by_cases hs:D.scan=0
  ·obtain⟨zs2,⟨d2,hd2,C2⟩,R2,hz2⟩:=(EE (c:=c) hs).at hz1 R1
   cases hr:D.ring with
   |cons b rest=>
    have e:D.aZ=true:=by unfold Wd.aZ;simp[hp,hr]
    obtain⟨zs3,⟨d3,hd3,C3⟩,R3,hz3⟩:=(Ii (c:=c) hr).at hz2 R2
    unfold Wd.flood
    rw[e,if_pos rfl,if_pos hs,hr]
    exact⟨zs3,⟨d1+d2+d3,by omega,uW C1 C2 C3⟩,R3⟩
   |nil=>
    obtain⟨zs3,⟨d3,hd3,C3⟩,R3,hz3⟩:=(zR (c:=c) hr).at hz2 R2
    by_cases hk:D.cursor<(D.n:Int)
    ·have e:D.aZ=true:=by unfold Wd.aZ;simp[hp,hk]
     obtain⟨zs4,⟨d4,hd4,C4⟩,R4,hz4⟩:=(MP (c:=c) S hk).at hz3 R3
     unfold Wd.flood
     rw[e,if_pos rfl,if_pos hs,hr]
     exact⟨zs4,⟨d1+d2+d3+d4,by omega,qo C1 C2 C3 C4⟩,R4⟩
    ·have e:D.aZ=false:=by unfold Wd.aZ;simp[hs,hr,hk]
     obtain⟨zs4,⟨d4,hd4,C4⟩,R4,hz4⟩:=(ED (c:=c) hk).at hz3 R3
     rw[jT e,e]
     exact⟨zs4,⟨d1+d2+d3+d4,by omega,qo C1 C2 C3 C4⟩,R4⟩
  ·have e:D.aZ=true:=by unfold Wd.aZ;simp[hp,hs]
   obtain⟨zs2,⟨d2,hd2,C2⟩,R2,hz2⟩:=(MQ (c:=c) S hs).at hz1 R1
   unfold Wd.flood
   rw[e,if_pos rfl,if_neg hs]
   exact⟨zs2,⟨d1+d2,by omega,zC C1 C2⟩,R2⟩
 ·have e:=uY hp
  rw[jT e,e]
  exact⟨zs1,⟨d1,by omega,xg hp C1⟩,R1⟩
end
def nu:Option Th→Nat
 |none=>2
 |some t=>t.pt.length+2
def jk(F:Int):Option Th→Nat
 |none=>1
 |some t=>((t.pt.length:Int)-F).toNat+1
def whiteT(P:Int)(t:Th):Nat:=if t.mr.color=P then 0 else t.pt.length+2
def gP(D:Wd)(l:List Nat):Nat:=(l.map (fun b:Nat=>nu (D.find ((b:Int)+1)))).sum
def oZ(D:Wd):Nat:=sumL (whiteT D.parity) D.ts+gP D D.ring
def yY(D:Wd):Nat:=((D.n:Int)-D.cursor).toNat+oZ D+(if D.scan=0 then 0 else jk D.scanF (D.find D.scan))
section
variable {D D':Wd} {t u:Th} {r x:Int} {l:List Nat}
theorem vY(h:∀q,nu (D'.find q)=nu (D.find q)):∀l:List Nat,gP D' l=gP D l:=fun l=>by
 unfold gP
 congr 1
 exact List.map_congr_left (fun b _=>h _)
theorem vH(r:Int)(f:Mrk→Mrk)(q:Int):nu ((D.mark r f).find q)=nu (D.find q):=by
 rw[find_mark]
 cases D.find q with
 |none=>rfl
 |some t=>
  simp only[Option.map_some]
  split<;>rfl
theorem EL(r:Int)(f:Mrk→Mrk)(F q:Int):jk F ((D.mark r f).find q)=jk F (D.find q):=by
 rw[find_mark]
 cases D.find q with
 |none=>rfl
 |some t=>
  simp only[Option.map_some]
  split<;>rfl
theorem DF(r q:Int):nu ((D.touch r).find q)=nu (D.find q):=by
 unfold Wd.touch
 split
 ·exact vH (D:=D) r (fun m=>{m with color:=D.parity}) q
 ·rfl
theorem DI(r F q:Int):jk F ((D.touch r).find q)=jk F (D.find q):=by
 unfold Wd.touch
 split
 ·exact EL (D:=D) r (fun m=>{m with color:=D.parity}) F q
 ·rfl
theorem GK(S:San D)(r:Int):oZ (D.touch r)≤oZ D:=by
 cases ht:D.toucht r with
 |false=>
  have e:D.touch r=D:=by unfold Wd.touch;rw[ht];rfl
  rw[e]
  exact Nat.le_refl _
 |true=>
  cases hf:D.find r with
  |none=>unfold Wd.toucht at ht;rw[hf] at ht;cases ht
  |some t=>
   obtain⟨htl,er⟩:=find_live hf
   have hnb:t.mr.color≠D.parity:=by
    unfold Wd.toucht at ht
    rw[hf] at ht
    simp at ht
    exact ht.2
   have e:D.touch r={D.paint r with ring:=if hasB (ints D.ring) (r-1) then D.ring else D.ring++[(r-1).toNat]}:=by unfold Wd.touch;rw[ht];rfl
   have h1:=gp (φ:=whiteT D.parity) (g:=fun t=>{t with mr:={t.mr with color:=D.parity}}) hf (find_at hf).2.1
   have h2:whiteT D.parity {t with mr:={t.mr with color:=D.parity}}=0:=by unfold whiteT;rw[if_pos rfl]
   have h3:whiteT D.parity t=t.pt.length+2:=by unfold whiteT;rw[if_neg hnb]
   have h4:gP (D.touch r) (D.touch r).ring≤gP D D.ring+(t.pt.length+2):=by
    rw[vY (DF r)]
    rw[e]
    show gP D (if hasB (ints D.ring) (r-1) then D.ring else D.ring++[(r-1).toNat])≤_
    split
    ·exact Nat.le_add_right _ _
    ·unfold gP
     rw[List.map_append,List.sum_append]
     have e2:(((r-1).toNat:Nat):Int)+1=r:=by omega
     simp only[List.map_cons,List.map_nil,List.sum_cons,List.sum_nil,e2,hf]
     exact Nat.le_refl _
   have h5:sumL (whiteT (D.touch r).parity) (D.touch r).ts=sumL (whiteT D.parity) (updL r (fun t=>{t with mr:={t.mr with color:=D.parity}}) D.ts):=by rw[e];rfl
   unfold oZ
   rw[h5]
   omega
theorem Dl(r:Int):oZ (D.settle r)=oZ D:=by
 unfold oZ
 have h1:sumL (whiteT (D.settle r).parity) (D.settle r).ts=sumL (whiteT D.parity) D.ts:=dJ r (fun t=>rfl)
 have h2:gP (D.settle r) (D.settle r).ring=gP D D.ring:=vY (vH r _) D.ring
 rw[h1,h2]
theorem Pj(S:San D)(r:Int)(o:Option Th):oZ (D.bH r o)≤oZ D:=by
 unfold Wd.bH
 split
 ·exact Nat.le_refl _
 ·split
  ·exact Nat.le_refl _
  ·split
   ·exact Nat.le_trans (GK (S.settle r) r) (Nat.le_of_eq (Dl r))
   ·exact Nat.le_of_eq (Dl r)
theorem vF(r:Int)(o:Option Th):(D.bH r o).n=D.n∧(D.bH r o).scan=D.scan:=by
 unfold Wd.bH
 split
 ·exact⟨rfl,rfl⟩
 ·split
  ·exact⟨rfl,rfl⟩
  ·split
   ·unfold Wd.touch
    split<;>exact⟨rfl,rfl⟩
   ·exact⟨rfl,rfl⟩
theorem oo(r:Int):(D.touch r).n=D.n∧(D.touch r).scan=D.scan∧(D.touch r).cursor=D.cursor:=by
 unfold Wd.touch
 split<;>exact⟨rfl,rfl,rfl⟩
theorem IE(S:San D)(hF:0≤D.scanF)(hb:D.aZ=true):yY D.flood+1≤yY D:=by
 unfold Wd.flood
 rw[hb,if_pos rfl]
 by_cases hs:D.scan=0
 ·rw[if_pos hs]
  cases hr:D.ring with
  |cons b rest=>
   show((D.n:Int)-D.cursor).toNat+(sumL (whiteT D.parity) D.ts+gP D rest)+(if(b:Int)+1=0 then 0 else jk 0 (D.find ((b:Int)+1)))+1≤((D.n:Int)-D.cursor).toNat+(sumL (whiteT D.parity) D.ts+gP D D.ring)+(if D.scan=0 then 0 else jk D.scanF (D.find D.scan))
   rw[if_neg (by omega),if_pos hs,hr]
   have h1:gP D (b::rest)=nu (D.find ((b:Int)+1))+gP D rest:=by unfold gP;simp
   rw[h1]
   cases D.find ((b:Int)+1) with
   |none=>simp only[nu,jk];omega
   |some t=>simp only[nu,jk];omega
  |nil=>
   have hk:D.cursor<(D.n:Int):=by
    unfold Wd.aZ at hb
    rw[hr] at hb
    simp[hs] at hb
    exact hb.2
   have h1:=Pj S (D.cursor+1) (D.find (D.cursor+1))
   obtain⟨e1,e2⟩:=vF (D:=D) (D.cursor+1) (D.find (D.cursor+1))
   show(((D.bH (D.cursor+1) (D.find (D.cursor+1))).n:Int)-(D.cursor+1)).toNat+oZ (D.bH (D.cursor+1) (D.find (D.cursor+1)))+(if(D.bH (D.cursor+1) (D.find (D.cursor+1))).scan=0 then 0 else _)+1≤((D.n:Int)-D.cursor).toNat+oZ D+(if D.scan=0 then 0 else jk D.scanF (D.find D.scan))
   rw[e1,e2,if_pos hs,if_pos hs]
   omega
 ·rw[if_neg hs]
  have hp:yY D=((D.n:Int)-D.cursor).toNat+oZ D+jk D.scanF (D.find D.scan):=by unfold yY;rw[if_neg hs]
  rw[hp]
  unfold Wd.jv
  cases hf:D.find D.scan with
  |none=>
   show((D.n:Int)-D.cursor).toNat+oZ D+(if(0:Int)=0 then 0 else _)+1≤_
   rw[if_pos rfl]
   exact Nat.le_refl _
  |some t=>
   simp only
   by_cases hff:D.scanF<(t.pt.length:Int)
   ·rw[if_pos hff]
    have h1:=GK S (nth t.pt D.scanF.toNat)
    obtain⟨e1,e2,e3⟩:=oo (D:=D) (nth t.pt D.scanF.toNat)
    show(((D.touch (nth t.pt D.scanF.toNat)).n:Int)-(D.touch (nth t.pt D.scanF.toNat)).cursor).toNat+oZ (D.touch (nth t.pt D.scanF.toNat))+(if(D.touch (nth t.pt D.scanF.toNat)).scan=0 then 0 else jk (D.scanF+1) ((D.touch (nth t.pt D.scanF.toNat)).find (D.touch (nth t.pt D.scanF.toNat)).scan))+1≤_
    rw[e1,e2,e3,if_neg hs,DI,hf]
    simp only[jk]
    omega
   ·rw[if_neg hff]
    show((D.n:Int)-D.cursor).toNat+oZ D+(if(0:Int)=0 then 0 else _)+1≤_
    rw[if_pos rfl]
    simp only[jk]
    omega
end
def tallyN:Nat→Wd→Wd
 |0,D=>D
 |n+1,D=>(tallyN n D).tally
def floodN:Nat→Wd→Wd
 |0,D=>D
 |n+1,D=>(floodN n D).flood
section
variable {w wr w':World} {p:Pl} {c:Cf} {k m n:Nat} {D D':Wd} {t u:Th}
theorem RSt.cursF(h:RSt w p c D wr):0≤D.cursor∧0≤D.field∧D.n=c.N∧0≤D.scanF:=by
 obtain⟨zs,m,hG,hR,_⟩:=h
 exact⟨(hR.curs hG.wz).1.1,(hR.curs hG.wz).2.1,hR.n,(hR.scans hG.wz).2.1⟩
def Ai(N:Nat)(D:Wd):Nat:=((N:Int)*100002+100001-(D.cursor*100002+D.field)).toNat
theorem NC{N:Nat}(hN:D.n=N)(hc:0≤D.cursor)(hf:0≤D.field)(hfl:D.field≤100000)(hs:∀t,t∈D.live→t.pt.length≤100000)(hb:D.bf=true):Ai N D.tally+1≤Ai N D∧D.tally.field≤100000:=by
 have hlt:D.cursor<(N:Int):=by
  unfold Wd.bf at hb
  rw[hN] at hb
  simp at hb
  exact hb.2
 have key:D.tally.cursor*100002+D.tally.field≥D.cursor*100002+D.field+1∧D.tally.cursor*100002+D.tally.field≤(N:Int)*100002+100000∧D.tally.field≤100000:=by
  unfold Wd.tally
  rw[hb,if_pos rfl]
  unfold Wd.tallyAt
  have e1:(D.move (D.cursor+1) 0).cursor=D.cursor+1∧(D.move (D.cursor+1) 0).field=0:=⟨rfl,rfl⟩
  cases hfd:D.find (D.cursor+1) with
  |none=>
   simp only
   rw[e1.1,e1.2]
   omega
  |some t=>
   have ht:=hs t (find_live hfd).1
   simp only
   split
   ·rw[e1.1,e1.2]
    omega
   ·split
    ·show D.cursor*100002+(D.field+1)≥_∧D.cursor*100002+(D.field+1)≤_∧D.field+1≤100000
     omega
    ·show(D.cursor+1)*100002+0≥_∧(D.cursor+1)*100002+0≤_∧(0:Int)≤100000
     omega
 unfold Ai
 omega
theorem RSt.Rw(h:RSt w p c D wr)(S:San D)(hN:c.N≤1000):yY D≤1000000000:=by
 have hcu:=h.cursF
 have hsz:=h.sizes
 have htot:=h.total S
 have hri:=(h.sit S).lens.1
 have h1:sumL (whiteT D.parity) D.ts≤100002*sumL occT D.ts:=mO 100002 (fun t ht=>by
  have h2:=hsz t ht
  have h3:1≤occT t:=by unfold occT;split<;>omega
  unfold whiteT
  split<;>omega)
 have h2:∀l:List Nat,gP D l≤100002*l.length:=fun l=>by
  induction l with
  |nil=>exact Nat.le_refl _
  |cons b l ih=>
   have e:gP D (b::l)=nu (D.find ((b:Int)+1))+gP D l:=by unfold gP;simp
   have h3:nu (D.find ((b:Int)+1))≤100002:=by
    cases hf:D.find ((b:Int)+1) with
    |none=>exact(show 2≤100002 by decide)
    |some t=>
     have:=hsz t (find_live hf).1
     show t.pt.length+2≤_
     omega
   rw[e,List.length_cons]
   omega
 have h3:=h2 D.ring
 have h4:(if D.scan=0 then 0 else jk D.scanF (D.find D.scan))≤100001:=by
  split
  ·omega
  ·cases hf:D.find D.scan with
   |none=>exact(show 1≤100001 by decide)
   |some t=>
    have:=hsz t (find_live hf).1
    show((t.pt.length:Int)-D.scanF).toNat+1≤_
    omega
 have h5:((D.n:Int)-D.cursor).toNat≤1000:=by omega
 unfold yY oZ
 omega
end
def QB(w:World)(p:Pl)(c:Cf)(D1:Wd)(ws:World)(e:Ending)(w':World):Prop:=
 ∃m n:Nat,e=.returned (.int .i64 (n:Int))∧(∀j,j<m→(tallyN j D1).bf=true)∧(tallyN m D1).bf=false∧
  (∀j,j<n→(floodN j ((tallyN m D1).begin 2)).aZ=true)∧(floodN n ((tallyN m D1).begin 2)).aZ=false∧
  n+yY (floodN n ((tallyN m D1).begin 2))≤yY ((tallyN m D1).begin 2)∧
  RSt w p c (floodN n ((tallyN m D1).begin 2)) w'∧San (floodN n ((tallyN m D1).begin 2))∧Touch (inG p) ws w'
def RunT(w:World)(p:Pl)(c:Cf)(k:Nat)(D1:Wd)(ws:World)(m:Nat)(wx:World):Prop:=
 ∃i,RSt w p c (tallyN i D1) wx∧(∀j,j<i→(tallyN j D1).bf=true)∧PInv c (k+2+i) (tallyN i D1)∧(tallyN i D1).field≤100000∧i+m≤200000000∧Ai c.N (tallyN i D1)≤m∧Touch (inG p) ws wx
set_option maxHeartbeats 2000000 in
theorem NI{w ws:World}{p:Pl}{c:Cf}{k:Nat}{D:Wd}(h:RSt w p c D ws)(I:PInv c k D)(hk:k≤1000)(hN:c.N≤1000):
  Calls Tryz.prog 20 #[.pointer (some ⟨p.a,0,none⟩)] ws (QB w p c (D.turn.begin 1) ws):=by
 have I1:PInv c (k+2) (D.turn.begin 1):=I.turn.begin_ 1
 have hf0:(D.turn.begin 1).field≤100000:=show(0:Int)≤100000 by decide
 have HS:=hid h
 have HI1:=hid I1
 have HF0:=hid hf0
 have HK:=hid (And.intro hk hN)
 obtain⟨vt,ht⟩:=tintFns.turn c D
 have HTu:=hid ht
 have HBe:=hid (ld_begin (c:=c) (D:=D.turn) 1 (by decide) (by decide))
 clear h I I1 ht hk hN hf0
 generalize D.turn.begin 1=D1 at*
 obtain⟨μ,hμ⟩:=Ku (RunT w p c k D1 ws)
 have HM:=hid hμ
 clear hμ
 go_enter Tryz.func20,Tryz.ntmps20
 go_wp2_with fail
 refine(HS.out.does HTu.out).mono ?_
 rintro e w1 ⟨rfl,h1,hT1⟩
 have HS1:=hid h1
 have HT1:=hid hT1
 clear h1 hT1
 go_wp2_with fail
 refine(HS1.out.does HBe.out).mono ?_
 rintro e w2 ⟨rfl,h2,hT2⟩
 have H0:Hid (∃m,RunT w p c k D1 ws m w2):=hid ⟨Ai c.N D1,0,h2,fun j hj=>by omega,HI1.out,HF0.out,by
  have h3:=RSt.cursF (D:=D1) h2
  have h4:=HK.out.2
  unfold Ai
  omega,Nat.le_refl _,HT1.out.trans hT2⟩
 clear h2 hT2
 go_wp2_with fail
 generalize hw2:w2=wy at*
 clear hw2
 go_loopw [] (fun wx=>∃m,RunT w p c k D1 ws m wx) (fun wx=>μ wx)
 case atStart=>exact H0.out
 case round=>
  obtain⟨m0,hm0⟩:=hrel
  obtain⟨⟨i,hS,hj,hI,hf,hi,hr,hT⟩,_⟩:=HM.out wr m0 hm0
  clear hm0
  have HSx:=hid hS
  have hcu:=hS.cursF
  have HTy:=hid (Kt (c:=c) hI.san (fun q=>by have h1:=hI.bd.shd q;have h2:=HK.out.1;omega))
  have HTx:=hid hT
  cases hb:(tallyN i D1).bf with
  |true=>
   rw[hb] at HTy
   obtain⟨hlt,hfl⟩:=NC (N:=c.N) hcu.2.2.1 hcu.1 hcu.2.1 hf hS.sizes hb
   have HJ:Hid (∀j,j<i+1→(tallyN j D1).bf=true):=hid (fun j h=>by
    by_cases e:j=i
    ·rw[e];exact hb
    ·exact hj j (by omega))
   have HIx:Hid (PInv c (k+2+(i+1)) (tallyN (i+1) D1)):=hid hI.tally
   have HFx:Hid ((tallyN (i+1) D1).field≤100000):=hid hfl
   obtain⟨m,hme⟩:∃m,m+1=μ wr:=⟨μ wr-1,by omega⟩
   have HK2:Hid (i+1+m≤200000000∧Ai c.N (tallyN (i+1) D1)≤m):=hid ⟨by omega,by have:Ai c.N (tallyN (i+1) D1)+1≤Ai c.N (tallyN i D1):=hlt;omega⟩
   have HMe:=hid hme
   clear hS hcu hb hlt hfl hI hf hi hr hT hj hme
   go_wp2_with fail
   refine(HSx.out.does HTy.out).mono ?_
   rintro e w3 ⟨rfl,h3,hT3⟩
   have HE:Hid (RunT w p c k D1 ws m w3):=hid ⟨i+1,h3,HJ.out,HIx.out,HFx.out,HK2.out.1,HK2.out.2,HTx.out.trans hT3⟩
   clear h3 hT3
   go_wp2_with fail
   go_roundw
   case rel=>exact⟨m,HE.out⟩
   case measure=>
    have h1:=(HM.out w3 m HE.out).2
    have h2:=HMe.out
    omega
  |false=>
   rw[hb] at HTy
   have HTy2:=hid (HTy.out.as rfl (mQ hb))
   have HBe2:=hid (ld_begin (c:=c) (D:=tallyN i D1) 2 (by decide) (by decide))
   have HS2:Hid (San ((tallyN i D1).begin 2)):=hid (hI.san.same_but rfl rfl rfl rfl (fun b hb=>.inl hb))
   have HJ:=hid hj
   have HB:=hid hb
   clear hS hcu hb hI hf hi hr hT hj HTy
   go_wp2_with fail
   refine(HSx.out.does HTy2.out).mono ?_
   rintro e w3 ⟨rfl,h3,hT3⟩
   have HS3:=hid h3
   have HT3:=hid (HTx.out.trans hT3)
   clear h3 hT3
   go_wp2_with fail
   refine(HS3.out.does HBe2.out).mono ?_
   rintro e w4 ⟨rfl,h4,hT4⟩
   have HS4:=hid h4
   have HT4:=hid (HT3.out.trans hT4)
   have HPb:=hid (RSt.Rw h4 HS2.out HK.out.2)
   clear h4 hT4
   go_wp2_with fail
   generalize hw4:w4=wz at*
   clear hw4
   go_loopw [3] (fun x wx=>∃n:Nat,x=.int .i64 (n:Int)∧RSt w p c (floodN n ((tallyN i D1).begin 2)) wx∧San (floodN n ((tallyN i D1).begin 2))∧(∀j,j<n→(floodN j ((tallyN i D1).begin 2)).aZ=true)∧n+yY (floodN n ((tallyN i D1).begin 2))≤yY ((tallyN i D1).begin 2)∧Touch (inG p) ws wx) (fun x _=>yY ((tallyN i D1).begin 2)+1-(intOf x).toNat)
   case atStart=>exact⟨0,rfl,HS4.out,HS2.out,fun j hj=>by omega,by show 0+yY ((tallyN i D1).begin 2)≤_;omega,HT4.out⟩
   case round=>
    obtain⟨n,rfl,hS,hsn,hj,hpt,hT⟩:=hrel
    have HSx:=hid hS
    have HSn:=hid hsn
    have HJn:=hid hj
    have HPt:=hid hpt
    have HTx:=hid hT
    have HFl:=hid (Kr (c:=c) hsn)
    have hpb:=HPb.out
    cases hb:(floodN n ((tallyN i D1).begin 2)).aZ with
    |true=>
     rw[hb] at HFl
     have hlt:yY (floodN (n+1) ((tallyN i D1).begin 2))+1≤yY (floodN n ((tallyN i D1).begin 2)):=IE hsn hS.cursF.2.2.2 hb
     have HPn:Hid (n+1+yY (floodN (n+1) ((tallyN i D1).begin 2))≤yY ((tallyN i D1).begin 2)):=hid (by omega)
     have HSn2:Hid (San (floodN (n+1) ((tallyN i D1).begin 2))):=hid hsn.flood
     have HJn2:Hid (∀j,j<n+1→(floodN j ((tallyN i D1).begin 2)).aZ=true):=hid (fun j h=>by
      by_cases e:j=n
      ·rw[e];exact hb
      ·exact hj j (by omega))
     have hnb:n<1000000000:=by omega
     clear hS hsn hj hpt hT hb hlt hpb
     go_wp2_with fail
     refine(HSx.out.does HFl.out).mono ?_
     rintro e w5 ⟨rfl,h5,hT5⟩
     have HS5:Hid (RSt w p c (floodN (n+1) ((tallyN i D1).begin 2)) w5):=hid h5
     have HT5:=hid (HTx.out.trans hT5)
     clear h5 hT5
     go_wp2_with fail
     go_roundw
     case rel=>exact⟨n+1,by go_num,HS5.out,HSn2.out,HJn2.out,HPn.out,HT5.out⟩
     case measure=>
      have:=HPn.out
      simp[intOf]
      omega
    |false=>
     rw[hb] at HFl
     have HFl2:=hid (HFl.out.as rfl (jT hb))
     have HBf:=hid hb
     clear hS hsn hj hpt hT hb hpb HFl
     go_wp2_with fail
     refine(HSx.out.does HFl2.out).mono ?_
     rintro e w5 ⟨rfl,h5,hT5⟩
     have HS5:=hid h5
     have HT5:=hid (HTx.out.trans hT5)
     clear h5 hT5
     go_wp2_with fail
     go_ret
     exact⟨i,n,rfl,HJ.out,HB.out,HJn.out,HBf.out,HPt.out,HS5.out,HSn.out,HT5.out⟩
def Clo(D:Wd)(R:Int→Prop):Prop:=∀x t,R x→D.find x=some t→∀i,i<t.pt.length→nth t.pt i≠0→R (nth t.pt i)
def Qx(D:Wd)(fl:List Int)(m:Int→Prop):Prop:=(∀x,x∈fl→m x)∧Clo D m∧∀R:Int→Prop,Clo D R→(∀x,x∈fl→R x)→∀x,m x→R x
theorem CF:∀(n:Nat) (l:List Int),l.Nodup→(∀x,x∈l→1≤x∧x≤(n:Int))→l.length≤n
 |0,l,_,h=>by
  cases l with
  |nil=>exact Nat.le_refl _
  |cons x l=>
   have:=h x (List.mem_cons_self ..)
   omega
 |n+1,l,hd,h=>by
  have hd2:(l.erase ((n+1:Nat):Int)).Nodup:=hd.erase _
  have ih:=CF n (l.erase ((n+1:Nat):Int)) hd2 (fun x hx=>by
   have h1:=h x (List.mem_of_mem_erase hx)
   have h2:x≠((n+1:Nat):Int):=fun e=>by
    rw[e] at hx
    exact(List.Nodup.not_mem_erase hd) hx
   omega)
  rw[List.length_erase] at ih
  split at ih<;>omega
structure QA (w0:World) (c:Cf) (D:Wd) (fl:List Int) (q:Nat) (v:Value) (l:List Int) (wr:World):Prop where
 is:Blk wr q (dA (fun i=>.bool (decide ((i:Int)∈l))) (c.N+1)) 4
 td:wr.ownsRow (q+1) 3 1 v l.length (l.map (Value.int .i64))
 below:Below w0.heap.size w0 wr
 q:w0.heap.size≤q
 nd:l.Nodup
 fd:∀x,x∈l→∃t,D.find x=some t
 all:∀R:Int→Prop,Clo D R→(∀x,x∈fl→R x)→∀x,x∈l→R x
section
variable {w0 wr w3:World} {c:Cf} {D:Wd} {fl l:List Int} {q j:Nat} {v v':Value} {x:Int} {hold:Nat→Nat} {p:Pl}
theorem QA.mark(h:QA w0 c D fl q v l wr)(hx:x=(j:Int)):Blk (wr.setCell ⟨q,j,none⟩ (.bool true)) q (dA (fun i=>.bool (decide ((i:Int)∈l++[x]))) (c.N+1)) 4:=by
 have h1:=h.is.set j (.bool true)
 rw[kX] at h1
 rw[jO (g:=fun i=>if i=j then Value.bool true else .bool (decide ((i:Int)∈l))) (fun i _=>by
  by_cases e:i=j
  ·rw[if_pos e,e,hx];simp
  ·rw[if_neg e]
   have:((i:Int)∈l++[x])↔((i:Int)∈l):=by
    rw[List.mem_append,List.mem_singleton,hx]
    exact⟨fun k=>k.elim id (fun k=>absurd k (by omega)),.inl⟩
   simp only[this])]
 exact h1
theorem QA.push(h:QA w0 c D fl q v l wr)(hx:x=(j:Int))(hn:x∉l)(hf:∃t,D.find x=some t)(hJ:∀R:Int→Prop,Clo D R→(∀x,x∈fl→R x)→(∀x,x∈l→R x)→R x)
  (ho:w3.ownsRow (q+1) 3 1 v' (l.length+1) (l.map (Value.int .i64)++[.int .i64 x])) (hg:((wr.setCell ⟨q,j,none⟩ (.bool true)).alloc (.cells #[.int .i64 x] 3)).grownBy w3 v.ownBlock):
  QA w0 c D fl q v' (l++[x]) w3∧Touch (fun b=>b=q∨v.ownBlock=some b) wr w3:=by
 have hq:=aI h.td
 have T1:Touch (fun b=>v.ownBlock=some b) (wr.setCell ⟨q,j,none⟩ (.bool true)) w3:=(Touch.of_below (below_new _ _)).trans (fU hg)
 have T0:Touch (fun b=>b=q) wr (wr.setCell ⟨q,j,none⟩ (.bool true)):=(Touch.refl (fun b=>b=q) wr).setCell (p:=⟨q,j,none⟩) (fun _=>rfl) _
 have T:Touch (fun b=>b=q∨v.ownBlock=some b) wr w3:=(T0.mono (fun _ _ e=>.inl e)).trans (T1.mono (fun _ _ e=>.inr e))
 refine⟨⟨(h.mark hx).touch T1 (fun e=>by have:=hq q e;omega),?_,?_,h.q,?_,fun y hy=> ?_,fun R hC hR y hy=> ?_⟩,T⟩
 ·rw[List.length_append,List.map_append]
  exact ho
 ·exact h.below.trans (T.below (fun b hb=>by
   have:=h.q
   rcases hb with rfl|hb
   ·exact this
   ·have:=hq b hb
    omega) h.below.size)
 ·rw[List.nodup_append]
  refine⟨h.nd,by simp,fun a ha b hb e=> ?_⟩
  rw[List.mem_singleton] at hb
  exact hn (hb▸e▸ha)
 ·rw[List.mem_append,List.mem_singleton] at hy
  rcases hy with hy|rfl
  ·exact h.fd y hy
  ·exact hf
 ·rw[List.mem_append,List.mem_singleton] at hy
  rcases hy with hy|rfl
  ·exact h.all R hC hR y hy
  ·exact hJ R hC hR (h.all R hC hR)
theorem RSt.La{t:Th}(h:RSt w0 p c D wr)(hf:D.find x=some t):∃j:Nat,x=(j:Int)∧1≤j∧j≤c.N:=by
 obtain⟨h1,h2⟩:=find_live hf
 obtain⟨zs,m,hG,hR,_⟩:=h
 have:=hR.hlt h1
 exact⟨t.h+1,by omega,by omega,by omega⟩
end
def Rp(D:Wd)(l:List Int)(x:Int):Prop:=∀t,D.find x=some t→∀i,i<t.pt.length→nth t.pt i≠0→nth t.pt i∈l
theorem Rp.more{D:Wd}{l:List Int}{x:Int}(h:Rp D l x)(m:List Int):Rp D (l++m) x:=fun t ht i hi h0=>List.mem_append_left _ (h t ht i hi h0)
def RF(D:Wd)(x:Int):Prop:=∃t,D.find x=some t∧t.mr.dead=false∧t.mr.color=D.parity
def Out(hold:Nat→Nat)(D:Wd):Prop:=∀h:Nat,(∀t,t∈D.live→t.h≠h)→hold h=0
theorem cntL_pos17{y:Int}:∀{l:List Int} {i:Nat},i<l.length→nth l i=y→0<bF y l
 |[],i,h,_=>by simp at h
 |a::l,0,_,h=>by
  have e:a=y:=h
  unfold bF
  rw[if_pos e]
  omega
 |a::l,i+1,h,e=>by
  have:=cntL_pos17 (l:=l) (i:=i) (by simpa using h) e
  unfold bF
  omega
section
variable {D D':Wd} {t u:Th} {hold:Nat→Nat} {l fl:List Int}
theorem held_of(S:San D)(N:Nam hold D)(O:Out hold D){b:Nat}(h:0<hold b):∃t,D.find ((b:Int)+1)=some t∧t.mr.dead=false∧t∈D.live∧t.h=b:=by
 have h1:∃t,t∈D.live∧t.h=b:=by
  refine Classical.byContradiction fun hn=> ?_
  have:=O b (fun t ht e=>hn ⟨t,ht,e⟩)
  omega
 obtain⟨t,ht,rfl⟩:=h1
 refine⟨t,S.findIt ht,?_,ht,rfl⟩
 cases hd:t.mr.dead with
 |false=>rfl
 |true=>
  have h2:=N.zer t ht hd
  have h3:=N.cnt t ht
  omega
theorem KI(S:San D)(N:Nam hold D)(ht:t∈D.live){i:Nat}(hi:i<t.pt.length)(hn:nth t.pt i≠0):∃u,D.find (nth t.pt i)=some u∧u.mr.dead=false∧u∈D.live∧(u.h:Int)+1=nth t.pt i:=by
 rcases N.good t ht i hi with h|⟨u,hu,he⟩
 ·exact absurd h hn
 ·refine⟨u,by rw[←he];exact S.findIt hu,?_,hu,he⟩
  cases hd:u.mr.dead with
  |false=>rfl
  |true=>
   have h2:=N.zer u hu hd
   have h3:=N.cnt u hu
   have h4:nmT ((u.h:Int)+1) t≤sumL (nmT ((u.h:Int)+1)) D.ts:=sumL_mem (φ:=nmT ((u.h:Int)+1)) ht
   have h5:0<nmT ((u.h:Int)+1) t:=cntL_pos17 hi he.symm
   omega
theorem OE{N:Nat}(S:San D)(Nm:Nam hold D)(T:FM hold D)(O:Out hold D)(h1:D.phase=2)(hn:D.n=N)(hb:D.aZ=false)(hlt:∀t,t∈D.live→t.h<N)(m:Int→Prop)(hm:Qx D fl m)(hf:∀x,x∈fl→∃b:Nat,x=(b:Int)+1∧0<hold b):∀x,m x→RF D x:=by
 obtain⟨e1,e2⟩:=T.end_ h1 hn hb hlt
 refine hm.2.2 (RF D) ?_ ?_
 ·rintro x t ⟨t',ht',hd,hc⟩ ht i hi hi0
  rw[ht] at ht'
  cases ht'
  obtain⟨htl,_⟩:=find_live ht
  obtain⟨u,hu,hud,hul,hue⟩:=KI S Nm htl hi hi0
  rcases e2 t htl hd hc i hi u hul hue with h|h
  ·rw[hud] at h
   cases h
  ·exact⟨u,hu,hud,h⟩
 ·intro x hx
  obtain⟨b,rfl,hb⟩:=hf x hx
  obtain⟨t,ht,hd,htl,rfl⟩:=held_of S Nm O hb
  exact⟨t,ht,hd,e1 t htl hd hb⟩
end
theorem last_one{P:Nat→Bool}{a b:Nat}(ha:∀j,j<a→P j=true)(ha2:P a=false)(hb:∀j,j<b→P j=true)(hb2:P b=false):a=b:=by
 rcases Nat.lt_trichotomy a b with h|h|h
 ·rw[hb a h] at ha2
  cases ha2
 ·exact h
 ·rw[ha b h] at hb2
  cases hb2
theorem PInv.Oo{c:Cf}{k:Nat}{D:Wd}(I:PInv c k D)(r:Int):PInv c (k+1) (D.less r):=I.to (I.san.less r) ((I.bd.less r).mono (Nat.le_succ k)) (zU r)
end Go.Proofs.YtjmifnljckmimaaGreat.Pk
