/-
  Texts laid together: ActsWz, GravW, GravSan, TintNil.
-/
import Derived.Test.YtjmifnljckmimaaGreatTintFn4Etc
import Derived.Test.YtjmifnljckmimaaGreatObjRdEtc
import Derived.Test.YtjmifnljckmimaaGreatRefMkEtc
namespace Go.Proofs.YtjmifnljckmimaaGreat.Pk
open Lib (hid)
open Go.RowKit
set_option linter.unusedVariables false
set_option linter.unusedSimpArgs false
set_option maxRecDepth 100000
theorem World.size_alloc(w:World)(o:Obj):(w.alloc o).heap.size=w.heap.size+1:=by simp
theorem AL{c:Cf}{zs:List Int}(hz:Wz c zs):∃(p:Pl) (w:World),G w p c ⟨zs,0⟩:=by
 refine⟨⟨(default:World).heap.size,(default:World).heap.size+1,(default:World).heap.size+2⟩,(((default:World).alloc (.cells #[.pointer (some ⟨(default:World).heap.size+1,0,none⟩),.int .i64 (c.N:Int),.int .i64 (c.W:Int),.int .i64 (c.R:Int),.int .i64 (c.K:Int)] 82)).alloc (.cells #[.slice (some ⟨(default:World).heap.size+2,0,none⟩) zs.length zs.length,.int .u64 (nH 0)] 135)).alloc (.cells (words zs) 119),?_⟩
 refine⟨((Blk.new _ _ _).alloc _).alloc _,⟨?_,?_,?_⟩,hz.len,?_,?_,hz.may,hz.wf⟩
 ·have:=Blk.new ((default:World).alloc (.cells #[.pointer (some ⟨(default:World).heap.size+1,0,none⟩),.int .i64 (c.N:Int),.int .i64 (c.W:Int),.int .i64 (c.R:Int),.int .i64 (c.K:Int)] 82)) #[.slice (some ⟨(default:World).heap.size+2,0,none⟩) zs.length zs.length,.int .u64 (nH 0)] 135
  rw[World.size_alloc] at this
  exact this.alloc _
 ·have:=Blk.new (((default:World).alloc (.cells #[.pointer (some ⟨(default:World).heap.size+1,0,none⟩),.int .i64 (c.N:Int),.int .i64 (c.W:Int),.int .i64 (c.R:Int),.int .i64 (c.K:Int)] 82)).alloc (.cells #[.slice (some ⟨(default:World).heap.size+2,0,none⟩) zs.length zs.length,.int .u64 (nH 0)] 135)) (words zs) 119
  rw[World.size_alloc,World.size_alloc] at this
  exact this
 ·show(default:World).heap.size+1≠(default:World).heap.size+2
  omega
 ·show(default:World).heap.size≠(default:World).heap.size+1
  omega
 ·show(default:World).heap.size≠(default:World).heap.size+2
  omega
theorem gB.wz{c:Cf}{f:FuncId}{args:List Value}{zs zs':List Int}{B:Nat}{v:Value}(hz:Wz c zs)(h:gB c f args zs B zs' v):Wz c zs':=by
 obtain⟨p,w,hG⟩:=AL hz
 obtain⟨d,_,H⟩:=h
 obtain⟨e,w',fr,⟨_,hG',_⟩,_⟩:=H p 0 w hG []
 exact hG'.wz
theorem Does.at{c:Cf}{D D':Wd}{f:FuncId}{args:List Value}{B:Nat}{v:Value}(h:Does c D f args B D' v){zs:List Int}(hz:Wz c zs)(R:au c zs D):∃zs',gB c f args zs B zs' v∧au c zs' D'∧Wz c zs':=by
 obtain⟨zs',A,R'⟩:=h zs hz R
 exact⟨zs',A,R',A.wz hz⟩
section
variable (D:Wd) (r:Int)
def Wd.lay(t:Th):Wd:=
 {(({(D.kill r).lessRing t.h with scan:=if D.scan=r then 0 else D.scan}:Wd).mark r (fun m=>{m with left:=(t.pt.length:Int)})).mark r (fun m=>{m with leaves:=(t.lv.length:Int)}) with
  grave:=D.grave++[t.h+1],pending:=D.pending+(1+(t.lv.length:Int))}
def Wd.buryB:Bool:=match D.find r with|none=>false|some t=> !t.mr.dead
def Wd.bury:Wd:=match D.find r with|none=>D|some t=>if t.mr.dead then D else D.lay r t
def Wd.Kj:Bool:=decide (D.cnt r=0)&&D.buryB r
def Wd.inter:Wd:=if D.cnt r=0 then D.bury r else D
def Wd.drain(i:Nat)(x:Int):Wd:=
 if(D.setP r i 0).cnt x=0 then D.setP r i 0
 else let D2:=if(D.setP r i 0).counted r i then(D.setP r i 0).ah x else D.setP r i 0
  if(D2.down x).cnt x=0 then(D2.down x).bury x else D2.down x
def Wd.ahead(l:Int):Int:=(if 0<l then l-1 else 0)*((D.w:Int)-1)
def Wd.work(g:Nat)(rest:List Nat)(t:Th):Wd:=
 if D.ahead t.mr.leaves<t.mr.left then(D.drain g (t.mr.left-1).toNat (nth t.pt (t.mr.left-1).toNat)).mark g (fun m=>{m with left:=t.mr.left-1})
 else if 0<t.mr.leaves then {(D.gF g (t.mr.leaves-1).toNat (nth t.lv (t.mr.leaves-1).toNat).toNat).mark g (fun m=>{m with leaves:=t.mr.leaves-1}) with pending:=D.pending-1}
 else {({D with grave:=rest}:Wd).gH g t.h with pending:=D.pending-1}
def Wd.step:Wd:=match D.grave with
 |[]=>D
 |g::rest=>match D.find (g:Int) with|none=>D|some t=>D.work g rest t
def Wd.gives:Bool:=match D.grave with
 |[]=>false
 |g::_=>match D.find (g:Int) with|none=>false|some t=> !decide (D.ahead t.mr.leaves<t.mr.left)
end
structure QT (w:Nat) (t:Th):Prop where
 l0:0≤t.mr.leaves
 l1:t.mr.leaves≤(t.lv.length:Int)
 f0:0≤t.mr.left
 f1:t.mr.left≤(t.pt.length:Int)
 fl:t.lv≠[]→t.mr.left≤t.mr.leaves*((w:Int)-1)
 there:∀j:Nat,(j:Int)<t.mr.leaves→∃b:Nat,t.lv[j]? =some (b:Int)
 gone:∀j:Nat,t.mr.leaves≤(j:Int)→j<t.lv.length→t.lv[j]? =some (-1)
 zero:∀i:Nat,t.mr.left≤(i:Int)→nth t.pt i=0
structure Geo (w:Nat) (t:Th):Prop where
 small:t.pt.length+t.dt.length≤w-8→t.lv=[]
 big:¬t.pt.length+t.dt.length≤w-8→t.lv≠[]∧t.pt.length+t.dt.length≤t.lv.length*(w-1)
def QY(t:Th):Prop:=∀j:Nat,j<t.lv.length→∃b:Nat,t.lv[j]? =some (b:Int)
structure Qm (w:Nat) (gr:List Nat) (t:Th):Prop where
 tC:Geo w t
 iff_:t.mr.dead=true↔t.h+1∈gr
 dead:t.mr.dead=true→QT w t
 alive:t.mr.dead=false→QY t
def bU(t:Th):Nat:=if t.mr.dead then 1+t.mr.leaves.toNat else 0
def occT(t:Th):Nat:=if t.mr.dead then 1+t.mr.leaves.toNat else 1+t.lv.length
def aj(φ:Th→Nat)(l:List Th):Nat:=((aJ l).map φ).sum
structure San (D:Wd):Prop where
 w:16≤D.w
 nd:(D.live.map Th.h).Nodup
 gd:D.grave.Nodup
 gv:∀g,g∈D.grave→∃t,t∈D.live∧t.h+1=g
 ok:∀t,t∈D.live→Qm D.w D.grave t
 ring:∀t,t∈D.live→t.h∈D.ring→t.mr.dead=false
 pend:D.pending=(aj bU D.ts:Int)
section
variable {r:Int} {t:Th} {g:Th→Th} {φ:Th→Nat}
theorem aR(u:Th)(l:List Th):aj φ (u::l)=(if u.ended then 0 else φ u)+aj φ l:=by
 unfold aj
 rw[ax]
 cases u.ended<;>simp
theorem gz:∀{l:List Th},aP r l=some t→(g t).ended=false→aj φ (bE r g l)+φ t=aj φ l+φ (g t)
 |[],h,_=>by simp[aP] at h
 |u::l,h,hg=>by
  unfold aP at h
  unfold bE
  cases hu:u.at r with
  |true=>
   rw[hu] at h
   simp at h
   subst h
   have hue:u.ended=false:=by unfold Th.at at hu;simp at hu;exact hu.1
   rw[if_pos rfl,aR,aR,hg,hue]
   simp
   omega
  |false=>
   rw[hu] at h
   simp at h
   have:=gz h hg
   rw[if_neg (by simp),aR,aR]
   omega
theorem qW:∀{l:List Th},aP r l=some t→(g t).ended=true→aj φ (bE r g l)+φ t=aj φ l
 |[],h,_=>by simp[aP] at h
 |u::l,h,hg=>by
  unfold aP at h
  unfold bE
  cases hu:u.at r with
  |true=>
   rw[hu] at h
   simp at h
   subst h
   have hue:u.ended=false:=by unfold Th.at at hu;simp at hu;exact hu.1
   rw[if_pos rfl,aR,aR,hg,hue]
   simp
   omega
  |false=>
   rw[hu] at h
   simp at h
   have:=qW h hg
   rw[if_neg (by simp),aR,aR]
   omega
theorem qX{ψ:Th→Nat}{l:List Th}(h:∀t,t∈aJ l→φ t≤ψ t):aj φ l≤aj ψ l:=by
 induction l with
 |nil=>simp[aj,aJ]
 |cons u l ih=>
  rw[aR,aR]
  have:=ih (fun t ht=>h t (by rw[ax];split;exact ht;exact List.mem_cons_of_mem _ ht))
  cases hu:u.ended with
  |true=>simp;omega
  |false=>
   have h2:=h u (by rw[ax,hu];simp)
   simp
   omega
theorem df{ψ:Th→Nat}{l:List Th}(h:∀t,t∈aJ l→φ t=ψ t):aj φ l=aj ψ l:=
 Nat.le_antisymm (qX (fun t ht=>Nat.le_of_eq (h t ht))) (qX (fun t ht=>Nat.le_of_eq (h t ht).symm))
theorem qY{l:List Th}(h:t∈aJ l):φ t≤aj φ l:=by
 induction l with
 |nil=>simp[aJ] at h
 |cons u l ih=>
  rw[ax] at h
  rw[aR]
  cases hu:u.ended with
  |true=>rw[hu] at h;simp at h ⊢;exact ih h
  |false=>
   rw[hu] at h
   simp at h ⊢
   rcases h with rfl|h
   ·omega
   ·have:=ih h;omega
end
section
variable {D D':Wd} {r:Int} {t s:Th} {g:Th→Th}
theorem nQ{g:Th→Th}(hg:∀t,(g t).ended=t.ended∧(g t).h=t.h)(q:Int):(D.upd r g).find q=(D.find q).map (fun t=>if t.at r then g t else t):=oZ hg q D.ts
theorem find_at_r(hf:D.find r=some t):t.at r=true:=by
 obtain⟨h1,h2,h3⟩:=find_at hf
 unfold Th.at
 simp[h2,h3]
theorem dh:∀{l:List Th},aP r l=some t→(g t).ended=false→(g t).h=t.h→(aJ (bE r g l)).map Th.h=(aJ l).map Th.h
 |[],h,_,_=>by simp[aP] at h
 |u::l,h,he,hh=>by
  unfold aP at h
  unfold bE
  cases hu:u.at r with
  |true=>
   rw[hu] at h
   simp at h
   subst h
   have hue:u.ended=false:=by unfold Th.at at hu;simp at hu;exact hu.1
   rw[if_pos rfl,ax,ax,he,hue]
   simp[hh]
  |false=>
   rw[hu] at h
   simp at h
   rw[if_neg (by simp),ax,ax]
   cases hue:u.ended with
   |true=>simp;exact dh h he hh
   |false=>simp;exact dh h he hh
theorem San.findIt(S:San D)(ht:t∈D.live):D.find ((t.h:Int)+1)=some t:=by
 have hn:=S.nd
 unfold Wd.live at hn ht
 unfold Wd.find
 revert ht hn
 induction D.ts with
 |nil=>intro ht hn;simp[aJ] at ht
 |cons u l ih=>
  intro ht hn
  unfold aP
  rw[ax] at hn ht
  cases hue:u.ended with
  |true=>
   rw[hue] at hn ht
   have:u.at ((t.h:Int)+1)=false:=by unfold Th.at;simp[hue]
   simp[this]
   exact ih (by simpa using ht) (by simpa using hn)
  |false=>
   rw[hue] at hn ht
   simp at hn ht
   rcases ht with rfl|ht
   ·have:t.at ((t.h:Int)+1)=true:=by unfold Th.at;simp[hue]
    simp[this]
   ·have:u.at ((t.h:Int)+1)=false:=by
     unfold Th.at
     simp[hue]
     intro e
     exact hn.1 t ht (by omega)
    simp[this]
    exact ih ht hn.2
theorem San.same(S:San D)(hu:t∈D.live)(hv:s∈D.live)(e:t.h=s.h):t=s:=by
 have h1:=S.findIt hu
 have h2:=S.findIt hv
 rw[e,h2] at h1
 exact(Option.some.inj h1).symm
theorem aB(h:D'.live.map Th.h=D.live.map Th.h)(hs:s∈D.live):∃s',s'∈D'.live∧s'.h=s.h:=by
 have:s.h∈D'.live.map Th.h:=by rw[h];exact List.mem_map.2 ⟨s,hs,rfl⟩
 obtain⟨s',h1,h2⟩:=List.mem_map.1 this
 exact⟨s',h1,h2⟩
theorem San.upd(S:San D)(hf:D.find r=some t)(he:(g t).ended=false)(hh:(g t).h=t.h)(hts:D'.ts=bE r g D.ts)(hw:D'.w=D.w)(hgr:D'.grave=D.grave)(hok:Qm D.w D.grave (g t))
  (hring:∀b,b∈D'.ring→b∈D.ring∨(b=t.h∧(g t).mr.dead=false)) (hp:D'.pending+(bU t:Int)=D.pending+(bU (g t):Int)):San D':=by
 have hheads:D'.live.map Th.h=D.live.map Th.h:=by unfold Wd.live;rw[hts];exact dh hf he hh
 have hmem:∀s,s∈D'.live→s=g t∨(s∈D.live∧s.h≠t.h):=fun s hs=>by
  unfold Wd.live at hs
  rw[hts] at hs
  exact aQ S.nd hf hs
 have htl:=(find_live hf).1
 have hsum:=gz (φ:=bU) (g:=g) hf he
 refine⟨by rw[hw];exact S.w,by rw[hheads];exact S.nd,by rw[hgr];exact S.gd,fun q hq=> ?_,fun s hs=> ?_,fun s hs hr=> ?_,?_⟩
 ·obtain⟨u,hu,e⟩:=S.gv q (hgr▸hq)
  obtain⟨u',h1,h2⟩:=aB hheads hu
  exact⟨u',h1,by omega⟩
 ·rw[hw,hgr]
  rcases hmem s hs with rfl|⟨h,_⟩
  ·exact hok
  ·exact S.ok s h
 ·rcases hmem s hs with rfl|⟨h,hne⟩
  ·rcases hring _ hr with h1|⟨_,h1⟩
   ·have hd:=S.ring t htl (by rw[←hh];exact h1)
    have hi:=(S.ok t htl).iff_
    have hi2:=hok.iff_
    rw[hh] at hi2
    cases hx:(g t).mr.dead with
    |false=>rfl
    |true=>rw[hi.2 (hi2.1 hx)] at hd;cases hd
   ·exact h1
  ·rcases hring _ hr with h1|⟨h1,_⟩
   ·exact S.ring s h h1
   ·exact absurd h1 hne
 ·have:=S.pend
  rw[hts]
  omega
theorem San.mark(S:San D)(r:Int){f:Mrk→Mrk}(h1:∀m,(f m).dead=m.dead)(h2:∀m,(f m).left=m.left)(h3:∀m,(f m).leaves=m.leaves):San (D.mark r f):=by
 cases hf:D.find r with
 |none=>rw[bH f hf];exact S
 |some t=>
  have hk:=S.ok t (find_live hf).1
  have hpe:bU {t with mr:=f t.mr}=bU t:=by unfold bU;rw[h1,h3]
  refine S.upd (g:=fun t=>{t with mr:=f t.mr}) hf (find_at hf).2.1 rfl rfl rfl rfl ⟨⟨hk.tC.small,hk.tC.big⟩,by show(f t.mr).dead=true↔_;rw[h1];exact hk.iff_,fun hd=> ?_,fun hd=> ?_⟩ (fun b hb=>.inl hb) (by show D.pending+_=_;rw[hpe])
  ·have k:=hk.dead (by rw[←h1];exact hd)
   refine⟨?_,?_,?_,?_,?_,?_,?_,?_⟩
   ·show 0≤(f t.mr).leaves;rw[h3];exact k.l0
   ·show(f t.mr).leaves≤_;rw[h3];exact k.l1
   ·show 0≤(f t.mr).left;rw[h2];exact k.f0
   ·show(f t.mr).left≤_;rw[h2];exact k.f1
   ·show _→(f t.mr).left≤(f t.mr).leaves*_;rw[h2,h3];exact k.fl
   ·show ∀j:Nat,(j:Int)<(f t.mr).leaves→_;rw[h3];exact k.there
   ·show ∀j:Nat,(f t.mr).leaves≤(j:Int)→_;rw[h3];exact k.gone
   ·show ∀i:Nat,(f t.mr).left≤(i:Int)→_;rw[h2];exact k.zero
  ·exact hk.alive (by rw[←h1];exact hd)
theorem San.dI(S:San D)(hts:D'.ts=D.ts)(hw:D'.w=D.w)(hgr:D'.grave=D.grave)(hpe:D'.pending=D.pending)(hring:∀b,b∈D'.ring→b∈D.ring∨∀t,t∈D.live→t.h=b→t.mr.dead=false):San D':=by
 have hl:D'.live=D.live:=by unfold Wd.live;rw[hts]
 refine⟨by rw[hw];exact S.w,by rw[hl];exact S.nd,by rw[hgr];exact S.gd,by rw[hgr,hl];exact S.gv,by rw[hgr,hl,hw];exact S.ok,fun t ht hr=> ?_,by rw[hts,hpe];exact S.pend⟩
 rw[hl] at ht
 rcases hring _ hr with h|h
 ·exact S.ring t ht h
 ·exact h t ht rfl
theorem San.setP(S:San D)(hf:D.find r=some t)(i:Nat){x:Int}(hx:t.mr.dead=true→x=0):San (D.setP r i x):=by
 have hk:=S.ok t (find_live hf).1
 refine S.upd (g:=fun t=>{t with pt:=t.pt.set i x}) hf (find_at hf).2.1 rfl rfl rfl rfl ⟨⟨by simpa using hk.tC.small,by simpa using hk.tC.big⟩,hk.iff_,fun hd=> ?_,hk.alive⟩ (fun b hb=>.inl hb) rfl
 have k:=hk.dead hd
 refine⟨k.l0,k.l1,k.f0,by simpa using k.f1,k.fl,k.there,k.gone,fun j hj=> ?_⟩
 show nth (t.pt.set i x) j=0
 by_cases e:i=j
 ·subst e
  by_cases hlt:i<t.pt.length
  ·rw[aD hlt];exact hx hd
  ·rw[bR (by simp;omega)]
 ·rw[aa e];exact k.zero j hj
theorem San.ah(S:San D)(x:Int):San (D.ah x):=by
 unfold Wd.ah
 split
 ·exact S.mark x (fun _=>rfl) (fun _=>rfl) (fun _=>rfl)
 ·exact S
theorem San.down(S:San D)(x:Int):San (D.down x):=S.mark x (fun _=>rfl) (fun _=>rfl) (fun _=>rfl)
theorem San.up(S:San D)(x:Int):San (D.up x):=S.mark x (fun _=>rfl) (fun _=>rfl) (fun _=>rfl)
def vI(t:Th):Th:={t with mr:={t.mr with dead:=true,left:=(t.pt.length:Int),leaves:=(t.lv.length:Int)}}
theorem gK(r:Int)(t:Th):(D.lay r t).ts=bE r (fun s=>{s with mr:={s.mr with dead:=true,left:=(t.pt.length:Int),leaves:=(t.lv.length:Int)}}) D.ts:=by
 have h1:=lF ({(D.kill r).lessRing t.h with scan:=if D.scan=r then 0 else D.scan}:Wd) r (fun m=>{m with left:=(t.pt.length:Int)}) (fun m=>{m with leaves:=(t.lv.length:Int)})
 have h2:=lF D r (fun m=>{m with dead:=true}) (fun m=>{m with left:=(t.pt.length:Int),leaves:=(t.lv.length:Int)})
 show((({(D.kill r).lessRing t.h with scan:=if D.scan=r then 0 else D.scan}:Wd).mark r (fun m=>{m with left:=(t.pt.length:Int)})).mark r (fun m=>{m with leaves:=(t.lv.length:Int)})).ts=_
 rw[h1]
 show((D.kill r).mark r (fun m=>{m with left:=(t.pt.length:Int),leaves:=(t.lv.length:Int)})).ts=_
 unfold Wd.kill
 rw[h2]
 rfl
theorem San.lay(S:San D)(hf:D.find r=some t)(hd:t.mr.dead=false):San (D.lay r t):=by
 obtain⟨htl,hr⟩:=find_live hf
 have hk:=S.ok t htl
 have hts:=gK (D:=D) r t
 have he:(vI t).ended=false:=(find_at hf).2.1
 have hheads:(D.lay r t).live.map Th.h=D.live.map Th.h:=by unfold Wd.live;rw[hts];exact dh (g:=fun s=>{s with mr:={s.mr with dead:=true,left:=(t.pt.length:Int),leaves:=(t.lv.length:Int)}}) hf he rfl
 have hmem:∀s,s∈(D.lay r t).live→s=vI t∨(s∈D.live∧s.h≠t.h):=fun s hs=>by
  unfold Wd.live at hs
  rw[hts] at hs
  have:=aQ (g:=fun s=>{s with mr:={s.mr with dead:=true,left:=(t.pt.length:Int),leaves:=(t.lv.length:Int)}}) S.nd hf hs
  exact this
 have hsum:=gz (φ:=bU) (g:=fun s=>{s with mr:={s.mr with dead:=true,left:=(t.pt.length:Int),leaves:=(t.lv.length:Int)}}) hf he
 have hng:t.h+1∉D.grave:=fun h=>by rw[hk.iff_.2 h] at hd;cases hd
 have hp0:bU t=0:=by unfold bU;rw[hd];rfl
 have hp1:bU (vI t)=1+t.lv.length:=by unfold bU vI;simp
 refine⟨S.w,by rw[hheads];exact S.nd,?_,fun q hq=> ?_,fun s hs=> ?_,fun s hs hb=> ?_,?_⟩
 ·show(D.grave++[t.h+1]).Nodup
  rw[List.nodup_append]
  exact⟨S.gd,by simp,fun x hx y hy=>by simp at hy;subst hy;exact fun e=>hng (e▸hx)⟩
 ·rcases List.mem_append.1 (show q∈D.grave++[t.h+1] from hq) with hq|hq
  ·obtain⟨u,hu,e⟩:=S.gv q hq
   obtain⟨u',h1,h2⟩:=aB hheads hu
   exact⟨u',h1,by omega⟩
  ·obtain⟨u',h1,h2⟩:=aB hheads htl
   exact⟨u',h1,by have:=List.mem_singleton.1 hq;omega⟩
 ·show Qm D.w (D.grave++[t.h+1]) s
  rcases hmem s hs with rfl|⟨h,hne⟩
  ·have ha:=hk.alive hd
   refine⟨⟨hk.tC.small,hk.tC.big⟩,⟨fun _=>by show t.h+1∈_;simp,fun _=>rfl⟩,fun _=>⟨?_,?_,?_,?_,fun hl=> ?_,fun j hj=> ?_,fun j hj hj2=> ?_,fun i hi=> ?_⟩,fun h=>by cases h⟩
   ·show(0:Int)≤(t.lv.length:Int);omega
   ·show(t.lv.length:Int)≤(t.lv.length:Int);omega
   ·show(0:Int)≤(t.pt.length:Int);omega
   ·show(t.pt.length:Int)≤(t.pt.length:Int);omega
   ·show(t.pt.length:Int)≤(t.lv.length:Int)*((D.w:Int)-1)
    have hb:¬t.pt.length+t.dt.length≤D.w-8:=fun h=>hl (hk.tC.small h)
    have h2:=(hk.tC.big hb).2
    have hw:=S.w
    have e:(((t.lv.length*(D.w-1):Nat)):Int)=(t.lv.length:Int)*((D.w:Int)-1):=by rw[Int.natCast_mul];congr 1;omega
    omega
   ·have hj':(j:Int)<(t.lv.length:Int):=hj
    exact ha j (by omega)
   ·have hj':(t.lv.length:Int)≤(j:Int):=hj
    exact absurd hj2 (by show ¬j<t.lv.length;omega)
   ·have hi':(t.pt.length:Int)≤(i:Int):=hi
    show nth t.pt i=0
    exact bR (by omega)
  ·have k:=S.ok s h
   refine⟨k.tC,⟨fun hd'=>List.mem_append_left _ (k.iff_.1 hd'),fun hg=> ?_⟩,k.dead,k.alive⟩
   rcases List.mem_append.1 hg with h1|h1
   ·exact k.iff_.2 h1
   ·exact absurd (by have:=List.mem_singleton.1 h1;omega) hne
 ·have hb':s.h∈D.ring.filter (fun b=>b !=t.h):=hb
  have:=List.mem_filter.1 hb'
  rcases hmem s hs with rfl|⟨h,hne⟩
  ·have h2:(vI t).h≠t.h:=by simpa using this.2
   exact absurd rfl h2
  ·exact S.ring s h this.1
 ·show D.pending+(1+(t.lv.length:Int))=_
  have:=S.pend
  rw[hts]
  have e:aj bU (bE r (fun s=>{s with mr:={s.mr with dead:=true,left:=(t.pt.length:Int),leaves:=(t.lv.length:Int)}}) D.ts)+bU t=aj bU D.ts+bU (vI t):=hsum
  omega
theorem San.bury(S:San D)(x:Int):San (D.bury x):=by
 unfold Wd.bury
 cases hf:D.find x with
 |none=>exact S
 |some t=>
  simp only
  cases hd:t.mr.dead with
  |true=>simpa using S
  |false=>simpa using S.lay hf hd
theorem San.inter(S:San D)(x:Int):San (D.inter x):=by
 unfold Wd.inter
 split
 ·exact S.bury x
 ·exact S
theorem San.drain(S:San D)(hf:D.find r=some t)(i:Nat)(x:Int):San (D.drain r i x):=by
 have S1:=S.setP hf i (x:=0) (fun _=>rfl)
 have key:∀D2:Wd,San D2→San (if(D2.down x).cnt x=0 then(D2.down x).bury x else D2.down x):=fun D2 S2=>by
  split
  ·exact(S2.down x).bury x
  ·exact S2.down x
 unfold Wd.drain
 by_cases hc:(D.setP r i 0).cnt x=0
 ·rw[if_pos hc];exact S1
 ·rw[if_neg hc]
  refine key _ ?_
  split
  ·exact S1.ah x
  ·exact S1
end
theorem LD(w:World):Calls Tryz.prog 48 #[.pointer none] w fun e w'=>e=.returned (.int .i64 0)∧Below w.heap.size w w':=by
 have hmf:∀(fn:Fn) (first cap:Array Value) (w:World),(Instr.makeFunc fn first cap).run Tryz.prog w=.ok (.func fn first cap) w:=fun _ _ _ _=>rfl
 have HB0:Hid (Below w.heap.size w w):=hid (Below.refl _ _)
 go_enter Tryz.func48,Tryz.ntmps48
 go_wp2_with fail
 refine(zV _ _).mono ?_
 rintro e v ⟨rfl,rfl⟩
 go_wp2_with fail
 go_ret
 exact⟨rfl,HB0.out⟩
theorem QM(w:World):Calls Tryz.prog 47 #[.pointer none] w fun e w'=>e=.returned (.tuple #[.int .i64 0,.int .i64 0])∧Below w.heap.size w w':=by
 have hmf:∀(fn:Fn) (first cap:Array Value) (w:World),(Instr.makeFunc fn first cap).run Tryz.prog w=.ok (.func fn first cap) w:=fun _ _ _ _=>rfl
 have HB0:Hid (Below w.heap.size w w):=hid (Below.refl _ _)
 go_enter Tryz.func47,Tryz.ntmps47
 go_wp2_with fail
 refine(zV _ _).mono ?_
 rintro e v ⟨rfl,rfl⟩
 go_wp2_with fail
 refine(zV _ _).mono ?_
 rintro e v ⟨rfl,rfl⟩
 go_wp2_with fail
 go_ret2
 exact⟨rfl,HB0.out⟩
end Go.Proofs.YtjmifnljckmimaaGreat.Pk
