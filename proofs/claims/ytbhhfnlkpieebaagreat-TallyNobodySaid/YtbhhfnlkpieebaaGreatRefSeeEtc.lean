/-
  Texts laid together: RefSee, LinkPl, LinkPi, RefT, Tally, TallyBeg, TallyNob, TallyCnt, TallyCntF.
-/
import Derived.Test.YtbhhfnlkpieebaaGreatRefG3Etc
import Derived.Test.YtbhhfnlkpieebaaGreatGravGrownEtc
import Derived.Test.YtbhhfnlkpieebaaGreatLinkFnEtc
import Derived.Test.YtbhhfnlkpieebaaGreatTintActFEtc
import Derived.Test.YtbhhfnlkpieebaaGreatRefMkEtc
import Derived.Test.YtbhhfnlkpieebaaGreatGravNamEtc
import Derived.Test.YtbhhfnlkpieebaaGreatTintFn4Etc
namespace Go.Proofs.YtbhhfnlkpieebaaGreat.Pk
open Lib (hid)
open Go.RowKit
set_option linter.unusedVariables false
set_option linter.unusedSimpArgs false
set_option maxRecDepth 100000
section
variable {w w':World} {lo:Nat} {lab:Nat→Nat} {a:WA} {D:Wd} {i:Nat} {t t':Th} {x:TA} {n v b:Nat} {c:Cf} {zs:List Int}
theorem ay.NL(R:ay c zs D)(hm:c.May)(S:San D)(htl:t∈D.live):Mx D.w t:=by
 have ho:=R.heap.bC t.ob (R.bz htl)
 have hw:=hm.w
 have e:t.ob.f=t.pt.length+t.dt.length:=rfl
 have h1:=ho.size
 rw[e] at h1
 rw[R.w]
 refine⟨by omega,by omega,h1,fun hb=> ?_⟩
 have g:=(S.ok t htl).qI.big (by rw[R.w];exact hb)
 rw[R.w] at g
 exact g.2
def Mv(w:World)(v1:Value)(k:Nat)(l:List Int)(wr:World):Prop:=
 wr.ownsRow (w.heap.size+2) 3 1 v1 k (l.map (Value.int .i64))∧aL wr (w.heap.size+1) #[v1,.slice none 0 0] 95∧aL wr w.heap.size #[.slice none 0 0,.slice none 0 0] 95∧Below w.heap.size w wr
def Mw(w w8:World)(v1 v2:Value)(k:Nat)(l:List Int)(wr:World):Prop:=
 wr.ownsRow w8.heap.size 116 1 v2 k (l.map (Value.int .u32))∧aL wr (w.heap.size+1) #[v1,v2] 95∧aL wr w.heap.size #[.slice none 0 0,.slice none 0 0] 95∧Touch (fun b=>b=w.heap.size+1) w8 wr
theorem Mv.push{w w1:World}{v1 v':Value}{k:Nat}{l:List Int}{y:Int}{wr:World}(h:Mv w v1 k l wr)(hk:l.length=k)(ho:w1.ownsRow (w.heap.size+2) 3 1 v' (k+1) ((l++[y]).map (Value.int .i64)))(hg:(wr.alloc (.cells #[.int .i64 y] 3)).grownBy w1 v1.ownBlock):
  Mv w v' (k+1) (l++[y]) (w1.setCell ⟨w.heap.size+1,0,none⟩ v')∧w1.cell? ⟨w.heap.size+1,0,none⟩=some v1∧w1.frozen? ⟨w.heap.size+1,0,none⟩=false:=by
 obtain⟨h1,h2,h3,h4⟩:=h
 have hn:∀g,v1.ownBlock=some g→w.heap.size+2≤g:=aM h1
 have T:Touch (fun q=>w.heap.size+2≤q) wr w1:=(Touch.of_below (ai wr _)).trans ((jC hg).mono (fun q _ e=>hn q e))
 have hB:=h2.touch T (by omega)
 have hZ:=h3.touch T (by omega)
 refine⟨⟨?_,hB.put 0 v' rfl,hZ.other (by show w.heap.size+1≠w.heap.size;omega) _,?_⟩,hB.cell 0 rfl,hB.free 0⟩
 ·exact bT ho ((Touch.refl (fun q=>q=w.heap.size+1) w1).setCell (p:=⟨w.heap.size+1,0,none⟩) (fun _=>rfl) v') (fun g hgg e=>by have:=aM ho g hgg;omega)
 ·exact(h4.trans (T.below (fun q hq=>by omega) h4.size)).setCell (by show w.heap.size≤w.heap.size+1;omega) _
theorem Mw.push{w w8 w1:World}{v1 v2 v':Value}{k:Nat}{l:List Int}{y:Int}{wr:World}(h:Mw w w8 v1 v2 k l wr)(hs:w.heap.size+2≤w8.heap.size)(ho:w1.ownsRow w8.heap.size 116 1 v' (k+1) ((l++[y]).map (Value.int .u32)))(hg:(wr.alloc (.cells #[.int .u32 y] 116)).grownBy w1 v2.ownBlock):
  Mw w w8 v1 v' (k+1) (l++[y]) (w1.setCell ⟨w.heap.size+1,1,none⟩ v')∧w1.cell? ⟨w.heap.size+1,1,none⟩=some v2∧w1.frozen? ⟨w.heap.size+1,1,none⟩=false:=by
 obtain⟨h1,h2,h3,h4⟩:=h
 have hn:∀g,v2.ownBlock=some g→w8.heap.size≤g:=aM h1
 have T:Touch (fun q=>w8.heap.size≤q) wr w1:=(Touch.of_below (ai wr _)).trans ((jC hg).mono (fun q _ e=>hn q e))
 have hB:=h2.touch T (by omega)
 have hZ:=h3.touch T (by omega)
 have T8:Touch (fun q=>q=w.heap.size+1) w8 w1:=by
  have:=h4.size
  refine⟨T.os.trans h4.os,T.tape.trans h4.tape,T.output.trans h4.output,Nat.le_trans h4.size T.size,fun q hq hx=> ?_⟩
  exact(T.block q (by omega) (by omega)).trans (h4.block q hq hx)
 refine⟨⟨?_,hB.put 1 v' rfl,hZ.other (by show w.heap.size+1≠w.heap.size;omega) _,T8.setCell (p:=⟨w.heap.size+1,1,none⟩) (fun _=>rfl) v'⟩,hB.cell 1 rfl,hB.free 1⟩
 exact bT ho ((Touch.refl (fun q=>q=w.heap.size+1) w1).setCell (p:=⟨w.heap.size+1,1,none⟩) (fun _=>rfl) v') (fun g hgg e=>by have:=aM ho g hgg;omega)
theorem Mv.xN{w:World}{v1:Value}{k:Nat}{l:List Int}{wr w2:World}(h:Mv w v1 k l wr)(d:ib wr w2):Mv w v1 k l w2:=by
 obtain⟨m,rfl⟩:=d
 exact⟨h.1,h.2.1,h.2.2.1,h.2.2.2.trans (ib.below ⟨m,rfl⟩ _)⟩
theorem Mw.xN{w w8:World}{v1 v2:Value}{k:Nat}{l:List Int}{wr w2:World}(h:Mw w w8 v1 v2 k l wr)(d:ib wr w2):Mw w w8 v1 v2 k l w2:=by
 obtain⟨m,rfl⟩:=d
 exact⟨h.1,h.2.1,h.2.2.1,h.2.2.2.drewN m⟩
end
section
variable {c:Cf} {zs zs':List Int} {D D':Wd} {t u:Th} {r x y:Int} {w wr w':World} {p:Pl} {q lo m k n:Nat}
structure Sit (c:Cf) (D:Wd):Prop where
 san:San D
 ES:∃zs,Wz c zs∧ay c zs D
theorem Sit.wb(h:Sit c D)(hN:c.N≤1000):WB D:=by
 obtain⟨zs,hz,R⟩:=h.ES
 have hp:=h.san.uH R hz.may
 have h1:=bS R.ring.nd R.ring.lt
 have h2:(D.grave.map (· -1)).length≤c.N:=bS R.grave.nd R.grave.lt
 have h3:=bS R.heap.pl.ch.nd R.heap.pl.ch.lt
 rw[List.length_map] at h2
 refine⟨by omega,by omega,by omega,hp.1,by omega,fun r t hf=> ?_,fun r t hf=> ?_,fun r t hf=> ?_⟩
 ·have:=(R.sizes hz (find_live hf).1).2;omega
 ·exact R.KQ hz (find_live hf).1
 ·have e:=(R.own t (find_live hf).1).w4
  have:=hz.wf (aa c t.h 4)
  rw[←e]
  exact this
theorem Sit.lens(h:Sit c D):D.ring.length≤c.N∧D.grave.length≤c.N∧D.clean.length≤c.N:=by
 obtain⟨zs,hz,R⟩:=h.ES
 have h1:=bS R.ring.nd R.ring.lt
 have h2:(D.grave.map (· -1)).length≤c.N:=bS R.grave.nd R.grave.lt
 have h3:=bS R.heap.pl.ch.nd R.heap.pl.ch.lt
 rw[List.length_map] at h2
 exact⟨h1,h2,h3⟩
theorem Sit.NL(h:Sit c D)(ht:t∈D.live):Mx D.w t:=by
 obtain⟨zs,hz,R⟩:=h.ES
 exact R.NL hz.may h.san ht
theorem Sit.step(h:Sit c D):Sit c D.step:=by
 obtain⟨zs,hz,R⟩:=h.ES
 obtain⟨zs1,_,R1,hz1⟩:=(Jw (c:=c) h.san).at hz R
 exact⟨h.san.step,zs1,hz1,R1⟩
end
section
variable {c:Cf} {D D':Wd} {t u:Th} {r x y:Int} {k K N n:Nat}
def fD(k:Nat)(D:Wd):Prop:=∀q t,D.find q=some t→t.mr.refs≤(k:Int)∧t.mr.shadow≤(k:Int)
theorem fD.mono(h:fD k D)(hk:k≤K):fD K D:=fun q t hf=>by have:=h q t hf;omega
theorem fD.ts(h:fD k D)(e:D'.ts=D.ts):fD k D':=fun q t hf=>h q t (by unfold Wd.find at *;rw[←e];exact hf)
theorem fD.upd(h:fD k D)(r:Int)(g:Th→Th)(hk:k≤K)(hg:∀t,(g t).ended=t.ended∧(g t).h=t.h)(h1:∀t,D.find r=some t→(g t).mr.refs≤(K:Int)∧(g t).mr.shadow≤(K:Int)):fD K (D.upd r g):=fun q s hs=>by
 rw[mO hg] at hs
 cases hq:D.find q with
 |none=>rw[hq] at hs;cases hs
 |some t=>
  rw[hq] at hs
  simp only[Option.map_some,Option.some.injEq] at hs
  by_cases e:t.at r=true
  ·rw[if_pos e] at hs
   have hr:q=r:=by
    have:=(find_live hq).2
    unfold Th.at at e
    simp at e
    omega
   subst hs
   exact h1 t (by rw[←hr];exact hq)
  ·rw[if_neg e] at hs
   subst hs
   have:=h q t hq
   omega
theorem fD.mark(h:fD k D)(r:Int)(f:Mrk→Mrk)(hk:k≤K)(h1:∀t,D.find r=some t→(f t.mr).refs≤(K:Int)∧(f t.mr).shadow≤(K:Int)):fD K (D.mark r f):=
 h.upd r (fun t=>{t with mr:=f t.mr}) hk (fun _=>⟨rfl,rfl⟩) h1
theorem fD.keep(h:fD k D)(r:Int)(f:Mrk→Mrk)(h1:∀m,(f m).refs≤m.refs)(h2:∀m,(f m).shadow≤m.shadow):fD k (D.mark r f):=
 h.mark r f (Nat.le_refl _) (fun t ht=>by have:=h r t ht;have:=h1 t.mr;have:=h2 t.mr;omega)
theorem fD.setP(h:fD k D)(r:Int)(i:Nat)(x:Int):fD k (D.setP r i x):=h.upd r (fun t=>{t with pt:=t.pt.set i x}) (Nat.le_refl _) (fun _=>⟨rfl,rfl⟩) (fun t ht=>h r t ht)
theorem fD.touch(h:fD k D)(r:Int):fD k (D.touch r):=by
 rcases touch_ts (D:=D) r with e|e
 ·exact h.ts e
 ·exact(h.keep r (fun m=>{m with color:=D.parity}) (fun _=>Int.le_refl _) (fun _=>Int.le_refl _)).ts e
theorem fD.more(h:fD k D)(r:Int):fD (k+1) (D.more r):=
 (h.mark r (fun m=>{m with refs:=m.refs+1}) (Nat.le_succ k) (fun t ht=>by have:=h r t ht;show t.mr.refs+1≤_∧t.mr.shadow≤_;omega)).touch r
theorem fD.down(h:fD k D)(r:Int):fD k (D.down r):=h.keep r (fun m=>{m with refs:=m.refs-1}) (fun m=>by show m.refs-1≤m.refs;omega) (fun _=>Int.le_refl _)
theorem fD.lighten(h:fD k D)(r:Int):fD k (D.lighten r):=by
 unfold Wd.lighten
 split
 ·exact h.keep r (fun m=>{m with shadow:=m.shadow-1}) (fun _=>Int.le_refl _) (fun m=>by show m.shadow-1≤m.shadow;omega)
 ·exact h
theorem fD.bury(h:fD k D)(x:Int):fD k (D.bury x):=by
 unfold Wd.bury
 cases hf:D.find x with
 |none=>exact h
 |some t=>
  simp only
  split
  ·exact h
  ·have:fD k (D.upd x (fun s=>{s with mr:={s.mr with dead:=true,left:=(t.pt.length:Int),leaves:=(t.lv.length:Int)}})):=h.upd x _ (Nat.le_refl _) (fun _=>⟨rfl,rfl⟩) (fun u hu=>h x u hu)
   exact this.ts (lay_ts x t)
theorem fD.inter(h:fD k D)(x:Int):fD k (D.inter x):=by
 unfold Wd.inter
 split
 ·exact h.bury x
 ·exact h
theorem fD.less(h:fD k D)(r:Int):fD k (D.less r):=((h.down r).ts (D':=(D.down r).sus) rfl).inter r
theorem fD.drain(h:fD k D)(r:Int)(i:Nat)(x:Int):fD k (D.drain r i x):=by
 have key:∀D2:Wd,fD k D2→fD k (if(D2.down x).cnt x=0 then(D2.down x).bury x else D2.down x):=fun D2 h2=>by
  split
  ·exact(h2.down x).bury x
  ·exact h2.down x
 unfold Wd.drain
 by_cases hc:(D.setP r i 0).cnt x=0
 ·rw[if_pos hc];exact h.setP r i 0
 ·rw[if_neg hc]
  refine key _ ?_
  split
  ·exact(h.setP r i 0).lighten x
  ·exact h.setP r i 0
theorem fD.step(h:fD k D)(S:San D):fD k D.step:=by
 cases hg:D.grave with
 |nil=>rw[show D.step=D by unfold Wd.step;rw[hg]];exact h
 |cons g rest=>
  obtain⟨t,htl,_,hf,hd,d,es⟩:=S.head hg
  rw[es]
  unfold Wd.work
  split
  ·exact(h.drain _ _ _).keep _ _ (fun _=>Int.le_refl _) (fun _=>Int.le_refl _)
  ·split
   ·have h1:fD k (D.upd (g:Int) (fun s=>{s with lv:=s.lv.set (t.mr.leaves-1).toNat (-1),mr:={s.mr with leaves:=t.mr.leaves-1}})):=h.upd _ _ (Nat.le_refl _) (fun _=>⟨rfl,rfl⟩) (fun u hu=>h _ u hu)
    exact h1.ts (cut_mark _ _ _ _)
   ·intro q s hs
    have hlive:({({D with grave:=rest}:Wd).endAt (g:Int) t.h with pending:=D.pending-1}:Wd).live=D.live.filter (fun s=>s.h !=t.h):=live_upd_end (g:=fun s=>{s with ended:=true}) (fun _=>rfl) S.nd hf
    obtain⟨hl,e⟩:=find_live hs
    rw[hlive] at hl
    have hl2:=(List.mem_filter.1 hl).1
    have:=S.findIt hl2
    rw[e] at this
    exact h q s this
theorem fD.put(h:fD k D)(r:Int)(i:Nat)(x y:Int):fD (k+1) (D.put r i x y):=by
 have h1:fD (k+1) (D.putS r i x):=by
  unfold Wd.putS
  split
  ·exact(h.setP r i x).mono (Nat.le_succ k)
  ·exact(h.more x).setP r i x
 unfold Wd.put Wd.putY
 split
 ·exact(h1.touch y).less y
 ·exact h1
def ME(N k:Nat)(l:List Nat):Prop:=l.length≤k∧∀h,h∈l→h<N
theorem Bj(x:Int):(D.touch x).ts.map Th.h=D.ts.map Th.h:=by
 rcases touch_ts (D:=D) x with h|h
 ·rw[h]
 ·rw[h];exact dw x _
theorem DF(x:Int):(D.more x).ts.map Th.h=D.ts.map Th.h:=(Bj x).trans (dw x _)
theorem JK(x:Int):(D.less x).ts.map Th.h=D.ts.map Th.h:=(mR (D:=(D.down x).sus) x).trans (show(D.down x).sus.ts.map Th.h=D.ts.map Th.h from dw (D:=D) x (fun m=>{m with refs:=m.refs-1}))
theorem LM(r:Int)(i:Nat)(x y:Int):(D.put r i x y).ts.map Th.h=D.ts.map Th.h:=by
 have h1:(D.putS r i x).ts.map Th.h=D.ts.map Th.h:=by
  unfold Wd.putS
  split
  ·exact jY r i x
  ·exact(jY (D:=D.more x) r i x).trans (DF x)
 unfold Wd.put Wd.putY
 split
 ·exact(JK y).trans ((Bj y).trans h1)
 ·exact h1
structure dB (c:Cf) (k:Nat) (D:Wd):Prop where
 san:San D
 bd:fD k D
 hd:ME c.N k (D.ts.map Th.h)
theorem dB.new(c:Cf){v:Nat}(hv:16≤v):dB c 0 (Wd.new c.N v):=⟨San.new c.N hv,fun q t hf=>by simp[Wd.find,Wd.new,aP] at hf,by simp[Wd.new,ME]⟩
theorem ME.mono{l:List Nat}(h:ME N k l)(hk:k≤K):ME N K l:=⟨Nat.le_trans h.1 hk,h.2⟩
theorem dB.mono(I:dB c k D)(hk:k≤K):dB c K D:=⟨I.san,I.bd.mono hk,I.hd.mono hk⟩
theorem dB.up(I:dB c k D):dB c (k+1) D:=I.mono (Nat.le_succ k)
theorem dB.to(I:dB c k D)(S:San D')(B:fD (k+1) D')(e:D'.ts.map Th.h=D.ts.map Th.h):dB c (k+1) D':=⟨S,B,by rw[e];exact I.hd.mono (Nat.le_succ k)⟩
theorem dB.step(I:dB c k D):dB c k D.step:=⟨I.san.step,I.bd.step I.san,by rw[yH];exact I.hd⟩
theorem dB.put(I:dB c k D)(hf:D.find r=some t)(hd:t.mr.dead=false)(i:Nat)(x y:Int):dB c (k+1) (D.put r i x y):=
 I.to (I.san.NI hf hd) (I.bd.put r i x y) (LM r i x y)
theorem dB.turn(I:dB c k D):dB c (k+1) D.turn:=I.to (I.san.iN rfl rfl rfl rfl (fun b hb=>.inl hb)) ((I.bd.mono (Nat.le_succ k)).ts rfl) rfl
theorem dB.mG(I:dB c k D)(i:Int):dB c (k+1) (D.mG i):=by
 unfold Wd.mG
 split
 ·exact I.to (I.san.iN rfl rfl rfl rfl (fun b hb=>.inl hb)) ((I.bd.mono (Nat.le_succ k)).ts rfl) rfl
 ·exact I.up
theorem dB.deepen(I:dB c k D)(r:Int):dB c (k+1) (D.deepen r):=by
 refine I.to (I.san.mark r (fun _=>rfl) (fun _=>rfl) (fun _=>rfl)) (I.bd.mark r _ (Nat.le_succ k) (fun t ht=> ?_)) (dw r _)
 have h1:=I.bd r t ht
 refine⟨by show t.mr.refs≤_;omega,?_⟩
 show D.shd r+1≤_
 unfold Wd.shd
 rw[ht]
 show(if t.mr.shade=D.parity then t.mr.shadow else 0)+1≤_
 split<;>omega
theorem dB.done(I:dB c k D)(r:Int):dB c (k+1) (D.done r):=
 I.to (I.san.mark r (fun _=>rfl) (fun _=>rfl) (fun _=>rfl)) ((I.bd.keep r (fun m=>{m with count:=D.parity}) (fun _=>Int.le_refl _) (fun _=>Int.le_refl _)).mono (Nat.le_succ k)) (dw r _)
theorem wM:∀{l1 l2:List Th} {q:Int} {s:Th},aP q (l1++l2)=some s→aP q l1=some s∨aP q l2=some s
 |[],l2,q,s,h=>.inr h
 |u::l,l2,q,s,h=>by
  have e0:aP q ((u::l)++l2)=if u.at q then some u else aP q (l++l2):=rfl
  have e1:aP q (u::l)=if u.at q then some u else aP q l:=rfl
  rw[e0] at h
  rw[e1]
  by_cases e:u.at q=true
  ·rw[if_pos e] at h ⊢;exact .inl h
  ·rw[if_neg e] at h ⊢;exact wM h
theorem dB.born(I:dB c k D)(B:BornOk D x y c.N):dB c (k+1) (D.born x y):=by
 refine⟨B.NK I.san,?_,?_⟩
 ·unfold Wd.born
  split
  ·rename_i hE
   have h1:fD k (D.mkD x y):=by
    unfold Wd.mkD
    rw[if_pos hE]
    intro q s hs
    have hs:aP q (D.ts++[_])=some s:=hs
    rcases wM hs with h|h
    ·exact I.bd q s h
    ·have:s=⟨D.mkB,ints (D.clean.tail.take (D.mkN x y)),zer x.toNat,zer y.toNat,false,Mrk.new⟩:=by
      unfold aP at h
      split at h
      ·exact(Option.some.inj h).symm
      ·simp[aP] at h
     subst this
     show(0:Int)≤_∧(0:Int)≤_
     omega
   exact(h1.mark _ _ (Nat.le_refl _) (fun t ht=>⟨(h1 _ t ht).1,by show(0:Int)≤_;omega⟩)).more _
  ·exact I.bd.mono (Nat.le_succ k)
 ·unfold Wd.born
  split
  ·rename_i hE
   have e1:(((D.mkD x y).dye (D.mkR x y)).more (D.mkR x y)).ts.map Th.h=(D.mkD x y).ts.map Th.h:=(DF _).trans (dw _ _)
   have e2:(D.mkD x y).ts.map Th.h=D.ts.map Th.h++[D.mkB]:=by unfold Wd.mkD;rw[if_pos hE];show(D.ts++[_]).map Th.h=_;rw[List.map_append];rfl
   rw[e1,e2]
   refine⟨by rw[List.length_append];have:=I.hd.1;simp at *;omega,fun h hh=> ?_⟩
   rcases List.mem_append.1 hh with hh|hh
   ·exact I.hd.2 h hh
   ·rw[List.mem_singleton.1 hh];exact B.lt hE
  ·exact I.hd.mono (Nat.le_succ k)
end
def Wd.tallyB(D:Wd):Bool:=decide (D.phase=1)&&decide (D.cursor<(D.n:Int))
def Wd.tallyAt(D:Wd):Option Th→Wd
 |none=>D.move (D.cursor+1) 0
 |some t=>if t.mr.count=D.parity then D.move (D.cursor+1) 0
  else if D.field<(t.pt.length:Int) then(D.deepen (nth t.pt D.field.toNat)).move D.cursor (D.field+1)
  else(D.done (D.cursor+1)).move (D.cursor+1) 0
def Wd.tally(D:Wd):Wd:=if D.tallyB then D.tallyAt (D.find (D.cursor+1)) else D
section
variable {w w':World} {lo:Nat} {lab:Nat→Nat} {a:WA} {D D':Wd} {i:Nat} {t t' u:Th} {x:TA}
theorem bE.move(h:bE w lo lab a D)(c f:Int):bE ((w.setCell ⟨a.q,4,none⟩ (.int .i64 c)).setCell ⟨a.q,5,none⟩ (.int .i64 f)) lo lab a (D.move c f):=by
 have k2:=h.uQ (D':={D with cursor:=c}) (k:=4) (u:=.int .i64 c) rfl rfl rfl rfl rfl rfl rfl
 exact k2.uQ (D':=D.move c f) (k:=5) (u:=.int .i64 f) rfl rfl rfl rfl rfl rfl rfl
theorem Touch.move{q:Nat}(h:Touch (fun b=>lo≤b) w w')(hq:lo≤q)(c f:Int):Touch (fun b=>lo≤b) w ((w'.setCell ⟨q,4,none⟩ (.int .i64 c)).setCell ⟨q,5,none⟩ (.int .i64 f)):=
 (h.setCell (p:=⟨q,4,none⟩) (fun _=>hq) _).setCell (p:=⟨q,5,none⟩) (fun _=>hq) _
end
section
variable {c:Cf} {zs:List Int} {D:Wd} {t:Th} {r:Int} {k:Nat}
theorem Ju(S:San D)(hz:Wz c zs)(R:ay c zs D)(hf:D.find r=some t){i:Nat}(hi:i<t.pt.length):
  In64 (nth t.pt i)∧∃e:Int,gZ c 94 [.int .i64 r,.int .i64 (i:Int)] zs 12 zs (.tuple #[.int .i64 (nth t.pt i),.int .i64 e]):=by
 have hr:=mJ hz.may R hf
 obtain⟨htl,_⟩:=find_live hf
 have hk:=S.ok t htl
 cases ha:aO c t.ob i with
 |some a=>
  obtain⟨h1,b0,b1⟩:=sQ hz R hr hf hi ha
  exact⟨by constructor<;>omega,0,h1⟩
 |none=>
  have h0:nth t.pt i=0:=by
   cases hd:t.mr.dead with
   |true=>
    have d:=hk.dead hd
    by_cases hl:(i:Int)<t.mr.left
    ·obtain⟨_,a,h⟩:=d.field hz.may R.w.symm hk.qI hl
     rw[ha] at h
     cases h
    ·exact d.zero i (by omega)
   |false=>
    obtain⟨a,h⟩:=(hk.alive hd).field hz.may R.w.symm hk.qI hi
    rw[ha] at h
    cases h
  have hob:=gI R r
  rw[hf] at hob
  have e1:pW c zs D.bC r (i:Int)=nth t.pt i:=by
   unfold pW
   rw[hob]
   show(if iO (i:Int) t.ob.np then dS c zs t.ob (i:Int).toNat else 0)=_
   rw[if_pos (iq (show i<t.ob.np from hi)),Int.toNat_natCast]
   unfold dS
   rw[ha,h0]
  have h:=jD.ptr c zs D.clean D.bC r (i:Int) hz R.heap hr
  rw[e1] at h
  exact⟨by rw[h0];constructor<;>omega,_,h⟩
theorem xZ(S:San D)(hf:D.find r=some t){f:Int}(hn:¬f<(t.pt.length:Int)):Does c D 91 [.int .i64 r,.int .i64 f] 12 D (.bool false):=fun zs hz R=>by
 have hob:=gI R r
 rw[hf] at hob
 obtain⟨d1,hd1,C1⟩:=jD.iJ c zs D.clean D.bC r t.ob hz R.heap hob
 exact⟨zs,⟨d1,hd1,yV (n:=(t.ob.np:Int)) hn C1⟩,R⟩
theorem EC(S:San D)(hf:D.find r=some t){j:Nat}(hj:j<t.pt.length)(hb:D.shd (nth t.pt j)<4294967295):Does c D 91 [.int .i64 r,.int .i64 (j:Int)] 33 (D.deepen (nth t.pt j)) (.bool true):=fun zs hz R=>by
 have hob:=gI R r
 rw[hf] at hob
 obtain⟨d1,hd1,C1⟩:=jD.iJ c zs D.clean D.bC r t.ob hz R.heap hob
 obtain⟨h64,e,d2,hd2,C2⟩:=Ju S hz R hf hj
 obtain⟨zs3,⟨d3,hd3,C3⟩,R3,hz3⟩:=(bQ.deepen c D (nth t.pt j) h64 hb).at hz R
 have hn:(j:Int)<(t.ob.np:Int):=by show(j:Int)<(t.pt.length:Int);omega
 exact⟨zs3,⟨d1+d2+d3,by omega,Fv hn C1 C2 C3⟩,R3⟩
theorem EH{x y:Int}(h0:0≤x)(h1:x≤4294967295)(h2:0≤y)(h3:y≤4294967295):D.wX x y=D.move x y:=by
 unfold Wd.wX He
 rw[if_pos (by simp[h0,h1,h2,h3])]
theorem JS{x y:Int}(h0:0≤x)(h1:x≤4294967295)(h2:0≤y)(h3:y≤4294967295):He x y=true:=by
 unfold He
 simp[h0,h1,h2,h3]
theorem sO{x y:Int}(h0:0≤x)(h1:x≤4294967295)(h2:0≤y)(h3:y≤4294967295):Does c D 57 [.int .i64 x,.int .i64 y] 2 (D.move x y) (.bool true):=by
 have h:=bQ.move c D x y
 rw[EH h0 h1 h2 h3,JS h0 h1 h2 h3] at h
 exact h
theorem ay.NC(R:ay c zs D)(hz:Wz c zs):(0≤D.cursor∧D.cursor≤4294967295)∧0≤D.field∧D.field≤4294967295:=by
 have h1:=R.reg 12 (by omega) (by omega)
 have h2:=R.reg 13 (by omega) (by omega)
 have e1:D.reg 12=D.cursor:=rfl
 have e2:D.reg 13=D.field:=rfl
 rw[e1] at h1
 rw[e2] at h2
 have b1:=hz.wf 12
 have b2:=hz.wf 13
 rw[←h1,←h2]
 exact⟨b1,b2⟩
theorem uo(S:San D)(hb:∀q,D.shd q<4294967295):Does c D 23 [] 96 D.tally (.bool D.tallyB):=fun zs hz R=>by
 have hm:=hz.may
 have hmn:=hm.n
 have hN:=R.n
 obtain⟨⟨k0,k1⟩,f0,f1⟩:=R.NC hz
 obtain⟨zs1,⟨d1,hd1,C1⟩,R1,hz1⟩:=(bQ.at_ c D).at hz R
 obtain⟨zs2,⟨d2,hd2,C2⟩,R2,hz2⟩:=(bQ.phase c D).at hz1 R1
 by_cases hp:D.phase=1
 ·rw[hp] at C2
  by_cases hk:D.cursor<(D.n:Int)
  ·have e:D.tallyB=true:=by unfold Wd.tallyB;simp[hp,hk]
   have hk':D.cursor<(c.N:Int):=by rw[←hN];exact hk
   have hr:In64 (D.cursor+1):=by constructor<;>omega
   unfold Wd.tally
   rw[e,if_pos rfl]
   obtain⟨zs3,⟨d3,hd3,C3⟩,R3,hz3⟩:=(KM (c:=c) (D:=D) hr).at hz2 R2
   cases hf:D.find (D.cursor+1) with
   |none=>
    rw[hf] at C3
    obtain⟨zs4,⟨d4,hd4,C4⟩,R4,hz4⟩:=(sO (c:=c) (D:=D) (x:=D.cursor+1) (y:=0) (by omega) (by omega) (by omega) (by omega)).at hz3 R3
    exact⟨zs4,⟨d1+d2+d3+d4,by omega,yU k0 hk' hm C1 C2 C3 C4⟩,R4⟩
   |some t=>
    rw[hf] at C3
    obtain⟨zs4,⟨d4,hd4,C4⟩,R4,hz4⟩:=(bQ.counted c D (D.cursor+1) D.field hr).at hz3 R3
    have hc:D.counted (D.cursor+1) D.field=decide (t.mr.count=D.parity):=by
     unfold Wd.counted
     rw[hf]
     simp[f0]
    rw[hc] at C4
    unfold Wd.tallyAt
    by_cases hct:t.mr.count=D.parity
    ·rw[show decide (t.mr.count=D.parity)=true from decide_eq_true hct] at C4
     obtain⟨zs5,⟨d5,hd5,C5⟩,R5,hz5⟩:=(sO (c:=c) (D:=D) (x:=D.cursor+1) (y:=0) (by omega) (by omega) (by omega) (by omega)).at hz4 R4
     simp only[hct,if_true]
     exact⟨zs5,⟨d1+d2+d3+d4+d5,by omega,sI k0 hk' hm C1 C2 C3 C4 C5⟩,R5⟩
    ·rw[show decide (t.mr.count=D.parity)=false from decide_eq_false hct] at C4
     simp only[hct,if_false]
     by_cases hff:D.field<(t.pt.length:Int)
     ·obtain⟨j,hj⟩:=Int.eq_ofNat_of_zero_le f0
      have hjl:j<t.pt.length:=by omega
      have hsz:=(R4.NL hm S (find_live hf).1).small
      obtain⟨zs5,⟨d5,hd5,C5⟩,R5,hz5⟩:=(EC (c:=c) S hf hjl (hb _)).at hz4 R4
      obtain⟨zs6,⟨d6,hd6,C6⟩,R6,hz6⟩:=(sO (c:=c) (D:=D.deepen (nth t.pt j)) (x:=D.cursor) (y:=(j:Int)+1) (by omega) (by omega) (by omega) (by omega)).at hz5 R5
      simp only[hff,if_true]
      rw[hj] at C1 C4 ⊢
      rw[Int.toNat_natCast]
      exact⟨zs6,⟨d1+d2+d3+d4+d5+d6,by omega,yS (f:=(j:Int)) (by omega) (by omega) k0 hk' hm C1 C2 C3 C4 C5 C6⟩,R6⟩
     ·obtain⟨zs5,⟨d5,hd5,C5⟩,R5,hz5⟩:=(xZ (c:=c) S hf hff).at hz4 R4
      obtain⟨zs6,⟨d6,hd6,C6⟩,R6,hz6⟩:=(bQ.done c D (D.cursor+1) hr).at hz5 R5
      obtain⟨zs7,⟨d7,hd7,C7⟩,R7,hz7⟩:=(sO (c:=c) (D:=D.done (D.cursor+1)) (x:=D.cursor+1) (y:=0) (by omega) (by omega) (by omega) (by omega)).at hz6 R6
      simp only[hff,if_false]
      exact⟨zs7,⟨d1+d2+d3+d4+d5+d6+d7,by omega,yT k0 hk' hm C1 C2 C3 C4 C5 C6 C7⟩,R7⟩
  ·have e:D.tallyB=false:=by unfold Wd.tallyB;simp[hk]
   unfold Wd.tally
   rw[e,if_neg (by decide)]
   exact⟨zs2,⟨d1+d2,by omega,BD (by rw[←hN];omega) C1 C2⟩,R2⟩
 ·have e:D.tallyB=false:=by unfold Wd.tallyB;simp[hp]
  unfold Wd.tally
  rw[e,if_neg (by decide)]
  exact⟨zs2,⟨d1+d2,by omega,wB hp C1 C2⟩,R2⟩
theorem San.move(S:San D)(x y:Int):San (D.move x y):=S.iN rfl rfl rfl rfl (fun b hb=>.inl hb)
theorem San.deepen(S:San D)(x:Int):San (D.deepen x):=S.mark x (fun _=>rfl) (fun _=>rfl) (fun _=>rfl)
theorem San.done(S:San D)(x:Int):San (D.done x):=S.mark x (fun _=>rfl) (fun _=>rfl) (fun _=>rfl)
theorem San.tally(S:San D):San D.tally:=by
 unfold Wd.tally
 split
 ·unfold Wd.tallyAt
  split
  ·exact S.move _ _
  ·split
   ·exact S.move _ _
   ·split
    ·exact(S.deepen _).move _ _
    ·exact(S.done _).move _ _
 ·exact S
theorem fD.shd(h:fD k D)(q:Int):D.shd q≤(k:Int):=by
 unfold Wd.shd
 split
 ·omega
 ·rename_i t hf
  have:=h q t hf
  split<;>omega
theorem fD.deepen(h:fD k D)(x:Int):fD (k+1) (D.deepen x):=by
 have hs:=h.shd x
 exact h.mark x _ (Nat.le_succ k) (fun t ht=>by have:=h x t ht;show t.mr.refs≤_∧D.shd x+1≤_;omega)
theorem fD.done(h:fD k D)(x:Int):fD k (D.done x):=h.keep x _ (fun _=>Int.le_refl _) (fun _=>Int.le_refl _)
theorem fD.move(h:fD k D)(x y:Int):fD k (D.move x y):=h.ts rfl
theorem fD.tally(h:fD k D):fD (k+1) D.tally:=by
 have h':=h.mono (Nat.le_succ k)
 unfold Wd.tally
 split
 ·unfold Wd.tallyAt
  split
  ·exact h'.move _ _
  ·split
   ·exact h'.move _ _
   ·split
    ·exact(h.deepen _).move _ _
    ·exact(h'.done _).move _ _
 ·exact h'
theorem IE:D.tally.ts.map Th.h=D.ts.map Th.h:=by
 unfold Wd.tally
 split
 ·unfold Wd.tallyAt
  split
  ·rfl
  ·split
   ·rfl
   ·split
    ·show(D.deepen _).ts.map Th.h=_
     unfold Wd.deepen
     exact dw _ _
    ·show(D.done _).ts.map Th.h=_
     unfold Wd.done
     exact dw _ _
 ·rfl
theorem dB.tally(I:dB c k D):dB c (k+1) D.tally:=I.to I.san.tally I.bd.tally IE
end
section
variable {w wr w':World} {p:Pl} {q lo m k n:Nat} {c:Cf} {D D2 D':Wd} {t u:Th} {r i x y sp sd:Int}
theorem um(ph:Int)(h0:0≤ph)(h3:ph≤3):Does c D 28 [.int .i64 ph] 5 (D.begin ph) (.bool true):=by
 have h:=bQ.begin_ c D ph
 have e:Jd ph=true:=decide_eq_true ⟨h0,h3⟩
 unfold Wd.mG at h
 rw[e,if_pos rfl] at h
 exact h
theorem dB.begin_(I:dB c k D)(ph:Int):dB c (k+1) (D.begin ph):=I.to (I.san.iN rfl rfl rfl rfl (fun b hb=>.inl hb)) ((I.bd.mono (Nat.le_succ k)).ts rfl) rfl
theorem dB.sN(I:dB c k D)(hk:k≤1000):Does c D 23 [] 96 D.tally (.bool D.tallyB):=uo I.san (fun q=>by have:=I.bd.shd q;omega)
def Nt:Wd:=(Wd.new 1 16).born 1 0
def Nh:Wd:=Nt.put 1 0 1 0
def Nu:Wd:=Nh.turn
def Nv:Wd:=Nu.begin 1
def Nw:Wd:=Nv.tally
def Mo:Wd:=Nw.tally
theorem vC:Nt.find 1=some ⟨0,[],[0],[],false,⟨1,0,0,0,0,false,0,0⟩⟩:=by rfl
theorem tally_idle(h:D.tallyB=false):D.tally=D:=by unfold Wd.tally;rw[h];rfl
set_option maxHeartbeats 2000000 in
theorem eu(w:World):Calls Tryz.prog 19 #[] w fun e w'=>e=.returned (.bool true)∧Below w.heap.size w w':=by
 go_enter Tryz.func19,Tryz.ntmps19
 go_wp2_with fail
 refine(uE DR 1 _ (by decide) (by decide)).mono ?_
 rintro e w0 ⟨p,q,lo,rfl,h,_,_,_,_⟩
 have HB:=hid (JM (gY 1) (Wd.new 1 16) 1 0 h)
 rw[show(Wd.new 1 16).mkR 1 0=1 by decide,show(Wd.new 1 16).mkE 1 0=0 by decide,show(Wd.new 1 16).born 1 0=Nt from rfl] at HB
 clear h
 go_wp2_with fail
 refine HB.out.mono ?_
 rintro e w1 ⟨rfl,h,_,hOk⟩
 have I1:dB (gY 1) 1 Nt:=(dB.new (gY 1) (v:=16) (by decide)).born hOk
 have I2:dB (gY 1) 2 Nh:=I1.put vC rfl 0 1 0
 have I3:dB (gY 1) 3 Nu:=I2.turn
 have I4:dB (gY 1) 4 Nv:=I3.begin_ 1
 have I5:dB (gY 1) 5 Nw:=I4.tally
 have I6:dB (gY 1) 6 Mo:=I5.tally
 have H1:=hid h
 have HP:=hid (Lr (c:=gY 1) (x:=1) (i:=0) I1.san vC rfl (by decide) (.inr ⟨_,vC,rfl,by decide⟩) (by decide) (by decide))
 have HT2:=hid ((I2.sN (by omega)).as (vb (show Nh.tallyB=false by decide)) (tally_idle (by decide)))
 obtain⟨vt,ht⟩:=bQ.turn (gY 1) Nh
 have HTu:=hid ht
 have HBe:=hid (um (c:=gY 1) (D:=Nu) 1 (by decide) (by decide))
 have HT4:=hid ((I4.sN (by omega)).as (vb (show Nv.tallyB=true by decide)) rfl)
 have HT5:=hid ((I5.sN (by omega)).as (vb (show Nw.tallyB=true by decide)) rfl)
 have HT6:=hid ((I6.sN (by omega)).as (vb (show Mo.tallyB=false by decide)) (tally_idle (by decide)))
 have HSh:=hid ((bQ.shadow (gY 1) Mo 1 (ug 1)).as (vi (show Mo.shd 1=1 by decide)) rfl)
 have HCo:=hid ((bQ.counted (gY 1) Mo 1 0 (ug 1)).as (vb (show Mo.counted 1 0=true by decide)) rfl)
 clear h hOk I1 I2 I3 I4 I5 I6 ht
 go_wp2_with fail
 refine(H1.out.does HP.out).mono ?_
 rintro e w2 ⟨rfl,h,_⟩
 have H2:Hid (fM w p (gY 1) Nh w2):=hid h
 clear h
 go_wp2_with fail
 refine(H2.out.does HT2.out).mono ?_
 rintro e w3 ⟨rfl,h,_⟩
 have H3:=hid h
 clear h
 go_wp2_with fail
 refine(H3.out.does HTu.out).mono ?_
 rintro e w4 ⟨rfl,h,_⟩
 have H4:Hid (fM w p (gY 1) Nu w4):=hid h
 clear h
 go_wp2_with fail
 refine(H4.out.does HBe.out).mono ?_
 rintro e w5 ⟨rfl,h,_⟩
 have H5:Hid (fM w p (gY 1) Nv w5):=hid h
 clear h
 go_wp2_with fail
 refine(H5.out.does HT4.out).mono ?_
 rintro e w6 ⟨rfl,h,_⟩
 have H6:Hid (fM w p (gY 1) Nw w6):=hid h
 clear h
 go_wp2_with fail
 refine(H6.out.does HT5.out).mono ?_
 rintro e w7 ⟨rfl,h,_⟩
 have H7:Hid (fM w p (gY 1) Mo w7):=hid h
 clear h
 go_wp2_with fail
 refine(H7.out.does HT6.out).mono ?_
 rintro e w8 ⟨rfl,h,_⟩
 have H8:=hid h
 clear h
 go_wp2_with fail
 refine(H8.out.does HSh.out).mono ?_
 rintro e w9 ⟨rfl,h,_⟩
 have H9:=hid h
 clear h
 go_wp2_with fail
 refine(H9.out.does HCo.out).mono ?_
 rintro e w10 ⟨rfl,h,_⟩
 have H10:=hid h
 clear h
 go_wp2_with fail
 go_ret
 exact⟨rfl,H10.out.below⟩
end
theorem yN(w:World):Calls Tryz.prog 23 #[.pointer none] w fun e w'=>e=.returned (.bool false)∧Below w.heap.size w w':=by
 have HP:=hid (fun w:World=>IP w)
 go_enter Tryz.func23,Tryz.ntmps23
 go_wp2_with fail
 refine(Nf _).mono ?_
 rintro e w1 ⟨rfl,hb⟩
 have HB1:=hid hb
 clear hb
 go_wp2_with fail
 refine(HP.out _).mono ?_
 rintro e w2 ⟨rfl,hb⟩
 have HB2:=hid (au HB1.out hb)
 clear hb
 go_wp2_with fail
 go_ret
 exact⟨rfl,HB2.out⟩
section
variable {D:Wd} {x:Int}
theorem ML(hw:D.w=16)(h:1≤D.clean.length)(hx:x=1∨x=2):D.mkE x 0=0∧(D.grow x 0).df.length=D.df.length+1∧(D.grow x 0).clean.length+1=D.clean.length:=by
 have hs:di ((16:Nat):Int) x 0=0∧bD ((16:Nat):Int) x 0=1:=by
  rcases hx with rfl|rfl<;>exact⟨by decide,by decide⟩
 have hE:D.mkE x 0=0:=by
  unfold Wd.mkE
  rw[hw,hs.1,hs.2,if_pos rfl,if_neg (by omega)]
 have hN:D.mkN x 0=0:=by
  unfold Wd.mkN
  rw[hw,hs.2]
  rfl
 refine⟨hE,?_,?_⟩
 ·unfold Wd.grow
  have e:((D.mkD x 0).dye (D.mkR x 0)).df=(D.mkD x 0).df:=lG (dw _ _)
  rw[if_pos hE,e,DD hE]
  simp
 ·unfold Wd.grow
  rw[if_pos hE]
  show(D.mkD x 0).clean.length+1=_
  unfold Wd.mkD
  rw[if_pos hE,hN]
  show(D.clean.tail.drop 0).length+1=_
  rw[List.drop_zero,List.length_tail]
  omega
end
def yg:List (List mh):=[[.int .i64 2,.int .i64 0],[.int .i64 1,.int .i64 0]]
theorem Im(w:World)(t:TypeId):kr (w.alloc (.cells #[.int .i64 2,.int .i64 0,.int .i64 1,.int .i64 0] t)) (some ⟨w.heap.size,0,none⟩) [.int .i64,.int .i64] yg:=by
 have hb:=aL.new w #[.int .i64 2,.int .i64 0,.int .i64 1,.int .i64 0] t
 intro k r hr
 have:(k=0∧r=[.int .i64 2,.int .i64 0])∨(k=1∧r=[.int .i64 1,.int .i64 0]):=by
  match k,hr with
  |0,hr=>exact .inl ⟨rfl,by simpa[yg] using hr.symm⟩
  |1,hr=>exact .inr ⟨rfl,by simpa[yg] using hr.symm⟩
  |k+2,hr=>simp[yg] at hr
 rcases this with⟨rfl,rfl⟩|⟨rfl,rfl⟩
 ·refine⟨rfl,_,_,rfl,by simp,fun j f hj=> ?_⟩
  match j,hj with
  |0,hj=>
   obtain rfl:f=.int .i64 2:=by simpa using hj.symm
   exact⟨hb.cell 0 rfl,by show(Lit.int .i64 _).wf=true;decide⟩
  |1,hj=>
   obtain rfl:f=.int .i64 0:=by simpa using hj.symm
   exact⟨hb.cell 1 rfl,by show(Lit.int .i64 _).wf=true;decide⟩
  |j+2,hj=>simp at hj
 ·refine⟨rfl,_,_,rfl,by simp,fun j f hj=> ?_⟩
  match j,hj with
  |0,hj=>
   obtain rfl:f=.int .i64 1:=by simpa using hj.symm
   exact⟨hb.cell 2 rfl,by show(Lit.int .i64 _).wf=true;decide⟩
  |1,hj=>
   obtain rfl:f=.int .i64 0:=by simpa using hj.symm
   exact⟨hb.cell 3 rfl,by show(Lit.int .i64 _).wf=true;decide⟩
  |j+2,hj=>simp at hj
theorem updL_P{P:Th→Prop}{g:Th→Th}(hg:∀t,P t→P (g t))(r:Int):∀{l:List Th},(∀t,t∈l→P t)→∀t,t∈updL r g l→P t
 |[],_,t,ht=>by simp[updL] at ht
 |u::l,h,t,ht=>by
  unfold updL at ht
  split at ht
  ·rcases List.mem_cons.1 ht with rfl|ht
   ·exact hg u (h u (by simp))
   ·exact h t (List.mem_cons_of_mem _ ht)
  ·rcases List.mem_cons.1 ht with rfl|ht
   ·exact h _ (List.mem_cons_self ..)
   ·exact updL_P hg r (fun t ht=>h t (List.mem_cons_of_mem _ ht)) t ht
def Dyed(D:Wd):Prop:=D.parity=0∧∀t,t∈D.ts→t.mr.count=0∧t.mr.shade=0
section
variable {D D':Wd} {x y r:Int}
theorem Dyed.new(n w:Nat):Dyed (Wd.new n w):=⟨rfl,fun t ht=>by simp[Wd.new] at ht⟩
theorem Dyed.mark(h:Dyed D)(r:Int){f:Mrk→Mrk}(hf:∀m,m.count=0∧m.shade=0→(f m).count=0∧(f m).shade=0):Dyed (D.mark r f):=
 ⟨h.1,updL_P (P:=fun t=>t.mr.count=0∧t.mr.shade=0) (fun t ht=>hf t.mr ht) r h.2⟩
theorem Dyed.mkD(h:Dyed D)(x y:Int):Dyed (D.mkD x y):=by
 unfold Wd.mkD
 by_cases hE:D.mkE x y=0
 ·rw[if_pos hE]
  refine⟨h.1,fun t ht=> ?_⟩
  rcases List.mem_append.1 (show t∈D.ts++[_] from ht) with ht|ht
  ·exact h.2 t ht
  ·obtain rfl:=List.mem_singleton.1 ht
   exact⟨rfl,rfl⟩
 ·rw[if_neg hE]
  exact h
theorem Dyed.dye(h:Dyed D)(r:Int):Dyed (D.dye r):=h.mark r (fun m _=>⟨h.1,h.1⟩)
theorem Dyed.grow(h:Dyed D)(x y:Int):Dyed (D.grow x y):=by
 unfold Wd.grow
 split
 ·exact(h.mkD x y).dye _
 ·exact h
theorem Dyed.setP(h:Dyed D)(r:Int)(i:Nat)(x:Int):Dyed (D.setP r i x):=⟨h.1,updL_P (P:=fun t=>t.mr.count=0∧t.mr.shade=0) (g:=fun t=>{t with pt:=t.pt.set i x}) (fun t ht=>ht) r h.2⟩
theorem Dyed.tie(h:Dyed D)(r:Int)(i:Nat)(x:Int):Dyed ((D.setP r i x).up x):=(h.setP r i x).mark _ (fun m hm=>hm)
theorem mK{q:Int}{t:Th}:∀{l:List Th},aP q l=some t→t∈l
 |u::l,h=>by
  unfold aP at h
  split at h
  ·cases h
   simp
  ·exact List.mem_cons_of_mem _ (mK h)
theorem Dyed.shd(h:Dyed D)(hp:D'.parity=1)(ht:D'.ts=D.ts)(q:Int):D'.shd q=0:=by
 unfold Wd.shd
 cases hf:D'.find q with
 |none=>rfl
 |some t=>
  have hm:t∈D.ts:=by rw[←ht];exact mK hf
  simp only
  rw[if_neg (by rw[(h.2 t hm).2,hp];decide)]
end
def NA(N k:Nat)(D:Wd):Prop:=Dyed D∧D.df.length=k∧D.clean.length+k=N
theorem EK(n:Nat)(hn:n<256)(a:Option Addr)(w:World)(hr:kr w a [.int .i64,.int .i64] yg):
  Calls Tryz.prog 25 #[.int .u8 (n:Int),.slice a 2 2,.slice none 0 0] w fun e w'=>∃p v cv D,e=.returned (.tuple #[.pointer (some ⟨Pl.a p,0,none⟩),.slice v 2 cv,.bool true])∧fM w p (gY (n%60+4)) D w'∧San D∧Dyed D:=by
 have hN:n%60+4≤63:=by omega
 refine(wQ (NA (n%60+4)) n hn a 2 yg none 0 [] w (by decide) (by decide) hr (kr.nil _ _ _) ⟨Dyed.new _ _,rfl,by simp[Wd.new]⟩ ?_ ?_).mono ?_
 ·intro k D x y hw _ hk hX
  have hxy:(x=1∨x=2)∧y=0∧k≤1:=by
   match k,hk with
   |0,hk=>simp[yg] at hk;exact⟨.inr hk.1.symm,hk.2.symm,by omega⟩
   |1,hk=>simp[yg] at hk;exact⟨.inl hk.1.symm,hk.2.symm,by omega⟩
   |k+2,hk=>simp[yg] at hk
  obtain⟨hx,rfl,hk1⟩:=hxy
  have h1:=hX.2.1
  have h2:=hX.2.2
  obtain⟨_,g1,g2⟩:=ML (D:=D) hw (by omega) hx
  exact⟨hX.1.grow x 0,by omega,by omega⟩
 ·intro D r i x hX
  exact⟨hX.1.tie r i x,(congrArg List.length (lG ((dw _ _).trans (jY r i x)))).trans hX.2.1,hX.2.2⟩
 ·rintro e w' ⟨p,lo,v,rfl,⟨D,h1,h2,_,h4,_,h6⟩,_⟩
  have e2:D.df.length=2:=h6.2.1
  obtain⟨a9,c9,rfl,_⟩:=dH.jV h4
  rw[e2]
  exact⟨p,a9,c9,D,rfl,h1,h2.san,h6.1⟩
theorem tally_no{D:Wd}(h:D.phase≠1):D.tallyB=false:=by
 unfold Wd.tallyB
 rw[decide_eq_false h]
 rfl
set_option maxHeartbeats 2000000 in
theorem sD(ph:Int)(n:Nat)(hn:n<256)(w:World):
  Calls Tryz.prog 7 #[.int .i64 ph,.int .u8 (n:Int)] w fun e w'=>e=.returned (.bool true)∧Below w.heap.size w w':=by
 have HGw:=hid (fun(w:World) (a:Option Addr)=>EK n hn a w)
 have HNn:Hid (1≤n%60+4):=hid (by omega)
 clear hn
 go_enter Tryz.func7,Tryz.ntmps7
 go_wp2_with fail
 refine(HGw.out _ _ (Im _ _)).mono ?_
 rintro e w1 ⟨p,v,cv,D,rfl,hS,hSan,hDy⟩
 have hn:D.n=n%60+4:=by
  obtain⟨zs,m,_,hR,_⟩:=hS
  exact hR.n
 have HB1:=hid (ai w (.cells #[.int .i64 2,.int .i64 0,.int .i64 1,.int .i64 0] 31))
 have HS1:=hid hS
 have HSan:=hid hSan
 have HDy:=hid hDy
 have HDn:=hid hn
 clear hS hSan hDy hn
 go_wp2_with fail
 refine(yN _).mono ?_
 rintro e w2 ⟨rfl,hb⟩
 have HS2:=hid (HS1.out.later hb)
 clear hb
 obtain⟨vt,ht⟩:=bQ.turn (gY (n%60+4)) D
 have HTu:=hid ht
 clear ht
 go_wp2_with fail
 refine(HS2.out.does HTu.out).mono ?_
 rintro e w3 ⟨rfl,h,_⟩
 have HS3:=hid h
 clear h
 have hpar:D.turn.parity=1:=by
  show 1-D.parity=1
  rw[HDy.out.1]
  rfl
 by_cases hp:0≤ph∧ph≤3
 ·have HBe:=hid (um (c:=gY (n%60+4)) (D:=D.turn) ph hp.1 hp.2)
  have hsn:San (D.turn.begin ph):=HSan.out.iN rfl rfl rfl rfl (fun b hb=>.inl hb)
  have hsh:∀q,(D.turn.begin ph).shd q<4294967295:=fun q=>by
   rw[HDy.out.shd (D':=D.turn.begin ph) hpar rfl q]
   decide
  have HTy:=hid (uo (c:=gY (n%60+4)) hsn hsh)
  clear hsn hsh
  by_cases h1:ph=1
  ·subst h1
   have e:(D.turn.begin 1).tallyB=true:=by
    unfold Wd.tallyB
    rw[show(D.turn.begin 1).cursor=0 from rfl,show(D.turn.begin 1).n=D.n from rfl,HDn.out]
    have:(0:Int)<((n%60+4:Nat):Int):=by have:=HNn.out;omega
    rw[decide_eq_true this]
    rfl
   rw[e] at HTy
   generalize (D.turn.begin 1).tally=D5 at*
   have mD:=hid (bQ.at_ (gY (n%60+4)) D5)
   clear e hpar
   go_wp2_with fail
   refine(HS3.out.does HBe.out).mono ?_
   rintro e w4 ⟨rfl,h,_⟩
   have HS4:=hid h
   clear h
   go_wp2_with fail
   refine(HS4.out.does HTy.out).mono ?_
   rintro e w5 ⟨rfl,h,_⟩
   have HS5:=hid h
   clear h
   go_wp2_with fail
   refine(HS5.out.does mD.out).mono ?_
   rintro e w6 ⟨rfl,h,_⟩
   have HS6:=hid h
   clear h
   go_wp2_with fail
   refine(eu _).mono ?_
   rintro e w9 ⟨rfl,hb⟩
   have HB9:=hid (au (au HB1.out HS6.out.below) hb)
   clear hb
   go_wp2_with fail
   go_ret
   exact⟨rfl,HB9.out⟩
  ·have e:(D.turn.begin ph).tallyB=false:=tally_no h1
   have HTy2:=hid (HTy.out.as (vb e) (tally_idle e))
   have mD:=hid (bQ.at_ (gY (n%60+4)) (D.turn.begin ph))
   rw[show(D.turn.begin ph).cursor=0 from rfl,show(D.turn.begin ph).field=0 from rfl] at mD
   have hb1:(ph==1)=false:=by rw[beq_eq_false_iff_ne];exact h1
   clear e hpar HTy
   generalize D.turn.begin ph=D4 at*
   go_wp2_with fail
   refine(HS3.out.does HBe.out).mono ?_
   rintro e w4 ⟨rfl,h,_⟩
   have HS4:=hid h
   clear h
   go_wp2_with fail
   refine(HS4.out.does HTy2.out).mono ?_
   rintro e w5 ⟨rfl,h,_⟩
   have HS5:=hid h
   clear h
   go_wp2_with fail
   refine(HS5.out.does mD.out).mono ?_
   rintro e w6 ⟨rfl,h,_⟩
   have HS6:=hid h
   clear h
   go_wp2_with fail
   refine(eu _).mono ?_
   rintro e w9 ⟨rfl,hb⟩
   have HB9:=hid (au (au HB1.out HS6.out.below) hb)
   clear hb
   go_wp2_with fail
   go_ret
   exact⟨rfl,HB9.out⟩
 ·have e:Jd ph=false:=decide_eq_false hp
  have HBe:=hid (bQ.begin_ (gY (n%60+4)) D.turn ph)
  rw[e] at HBe
  clear e
  by_cases h0:ph<0
  ·go_wp2_with fail
   refine(HS3.out.does HBe.out).mono ?_
   rintro e w4 ⟨rfl,h,_⟩
   have HS4:=hid h
   clear h
   go_wp2_with fail
   refine(eu _).mono ?_
   rintro e w9 ⟨rfl,hb⟩
   have HB9:=hid (au (au HB1.out HS4.out.below) hb)
   clear hb
   go_wp2_with fail
   go_ret
   exact⟨rfl,HB9.out⟩
  ·have h3:3<ph:=by omega
   go_wp2_with fail
   refine(HS3.out.does HBe.out).mono ?_
   rintro e w4 ⟨rfl,h,_⟩
   have HS4:=hid h
   clear h
   go_wp2_with fail
   refine(eu _).mono ?_
   rintro e w9 ⟨rfl,hb⟩
   have HB9:=hid (au (au HB1.out HS4.out.below) hb)
   clear hb
   go_wp2_with fail
   go_ret
   exact⟨rfl,HB9.out⟩
def qw(h f:Nat)(u:Th):Nat:=if u.h<h then u.pt.length else if u.h=h then f else 0
def xA(q:Int)(h f:Nat)(u:Th):Nat:=cntL q (u.pt.take (qw h f u))
theorem cntL_take(q:Int):∀(l:List Int) {f:Nat},f<l.length→cntL q (l.take (f+1))=cntL q (l.take f)+if nth l f=q then 1 else 0
 |[],f,h=>by simp at h
 |a::l,0,_=>by simp[cntL,nth]
 |a::l,f+1,h=>by
  have:=cntL_take q l (f:=f) (by simpa using h)
  have e:nth (a::l) (f+1)=nth l f:=rfl
  rw[e]
  simp only[List.take_succ_cons,cntL]
  omega
theorem sumL_one{φ ψ:Th→Nat}{t:Th}{d:Nat}:∀{l:List Th},((liveL l).map Th.h).Nodup→t∈liveL l→ψ t=φ t+d→(∀u,u∈liveL l→u.h≠t.h→ψ u=φ u)→sumL ψ l=sumL φ l+d
 |[],_,h,_,_=>by simp[liveL] at h
 |u::l,hn,h,hd,ho=>by
  rw[sumL_cons,sumL_cons]
  rw[az] at hn h ho
  cases hu:u.ended with
  |true=>
   rw[hu] at hn h ho
   simp at hn h ho ⊢
   exact sumL_one (φ:=φ) (ψ:=ψ) hn h hd ho
  |false=>
   rw[hu] at hn h ho
   simp at hn h ho ⊢
   rcases h with rfl|h
   ·have:sumL ψ l=sumL φ l:=sumL_congr (fun v hv=>ho.2 v hv (fun e=>hn.1 v hv e))
    omega
   ·have h1:=sumL_one (φ:=φ) (ψ:=ψ) hn.2 h hd ho.2
    have h2:=ho.1 (fun e=>hn.1 t h e.symm)
    omega
section
variable {D D':Wd} {t u:Th} {N s h f:Nat} {q x r:Int}
theorem deepen_mem(S:San D)(hs:u∈(D.deepen x).live):∃v,v∈D.live∧u.h=v.h∧u.mr.count=v.mr.count:=by
 unfold Wd.deepen at hs
 obtain⟨v,hv,e1,_,h2⟩:=mark_mem S hs
 exact⟨v,hv,e1,by rcases h2 with⟨_,h2⟩|⟨_,h2⟩<;>rw[h2]⟩
theorem done_mem(S:San D)(hs:u∈(D.done x).live):∃v,v∈D.live∧u.h=v.h∧((v.h:Int)+1=x∧u.mr.count=D.parity∨(v.h:Int)+1≠x∧u.mr.count=v.mr.count):=by
 unfold Wd.done at hs
 obtain⟨v,hv,e1,_,h2⟩:=mark_mem S hs
 exact⟨v,hv,e1,by
  rcases h2 with⟨h,h2⟩|⟨h,h2⟩
  ·exact .inl ⟨h,by rw[h2]⟩
  ·exact .inr ⟨h,by rw[h2]⟩⟩
structure CI (N s h f:Nat) (D:Wd):Prop where
 san:San D
 cu:D.cursor=(h:Int)
 fi:D.field=(f:Int)
 ph:D.phase=1
 n:D.n=N
 hN:h≤N
 ct:∀t,t∈D.live→(t.mr.count=D.parity↔t.h<h)
 fz:f=0∨∃t,t∈D.live∧t.h=h∧f≤t.pt.length
 sh:∀q t,D.find q=some t→D.shd q=((sumL (xA q h f) D.ts:Nat):Int)
 st:s=h+sumL (qw h f) D.ts
 hlt:∀t,t∈D.live→t.h<N
 bd:N+sumL (fun t=>t.pt.length) D.ts≤16*N
theorem San.theOne(S:San D)(ht:t∈D.live)(hu:u∈D.live)(e:u.h=t.h):u=t:=by
 have h1:=S.findIt ht
 have h2:=S.findIt hu
 rw[e,h1] at h2
 exact(Option.some.inj h2).symm
theorem CI.skip(I:CI N s h f D)(hk:h<N)(hf:D.find ((h:Int)+1)=none):CI N (s+1) (h+1) 0 (D.move ((h:Int)+1) 0):=by
 have hno:∀u,u∈D.live→u.h≠h:=fun u hu e=>by
  have:=I.san.findIt hu
  rw[e,hf] at this
  cases this
 have f0:f=0:=by
  rcases I.fz with h0|⟨t,ht,e,_⟩
  ·exact h0
  ·exact absurd e (hno t ht)
 subst f0
 have hc:∀u,u∈liveL D.ts→qw (h+1) 0 u=qw h 0 u:=fun u hu=>by
  have:=hno u hu
  unfold qw
  by_cases h1:u.h<h
  ·rw[if_pos h1,if_pos (by omega)]
  ·rw[if_neg h1,if_neg (by omega)]
   split<;>first|rfl|(split<;>rfl)
 refine⟨I.san.move _ _,rfl,rfl,I.ph,I.n,hk,fun t ht=> ?_,.inl rfl,fun q t hq=> ?_,?_,I.hlt,I.bd⟩
 ·have:=hno t ht
  exact(I.ct t ht).trans (by omega)
 ·show D.shd q=((sumL (xA q (h+1) 0) D.ts:Nat):Int)
  rw[I.sh q t hq,sumL_congr (φ:=xA q (h+1) 0) (ψ:=xA q h 0) (fun u hu=>by unfold xA;rw[hc u hu])]
 ·show s+1=h+1+sumL (qw (h+1) 0) D.ts
  rw[sumL_congr hc]
  have:=I.st
  omega
theorem CI.deep(I:CI N s h f D)(hf:D.find ((h:Int)+1)=some t)(hff:f<t.pt.length):CI N (s+1) h (f+1) ((D.deepen (nth t.pt f)).move (h:Int) ((f:Int)+1)):=by
 obtain⟨htl,e⟩:=find_live hf
 have e:t.h=h:=by omega
 have hch:∀u,u∈liveL D.ts→u.h≠t.h→qw h (f+1) u=qw h f u:=fun u hu hne=>by
  unfold qw
  split
  ·rfl
  ·rw[if_neg (by omega),if_neg (by omega)]
 have hct:qw h (f+1) t=qw h f t+1:=by
  unfold qw
  rw[if_neg (by omega),if_pos e,if_neg (by omega),if_pos e]
 have hm:∀φ:Th→Nat,(∀(t:Th) (m:Mrk),φ {t with mr:=m}=φ t)→sumL φ (D.deepen (nth t.pt f)).ts=sumL φ D.ts:=fun φ hφ=>sumL_mark _ (fun t=>hφ t _)
 refine⟨(I.san.deepen _).move _ _,rfl,by show(f:Int)+1=_;omega,I.ph,I.n,I.hN,fun s hs=> ?_,?_,fun q v hq=> ?_,?_,fun s hs=> ?_,?_⟩
 ·obtain⟨v,hv,e1,e2⟩:=deepen_mem I.san (show s∈(D.deepen (nth t.pt f)).live from hs)
  rw[e1,e2]
  exact I.ct v hv
 ·refine .inr ?_
  have hfm:=dR (D:=D) (r:=nth t.pt f) (fun m=>{m with shade:=D.parity,shadow:=D.shd (nth t.pt f)+1}) ((h:Int)+1)
  rw[hf] at hfm
  simp only[Option.map_some] at hfm
  have hl:=(find_live hfm).1
  by_cases ha:t.at (nth t.pt f)=true
  ·rw[if_pos ha] at hl
   exact⟨_,hl,e,hff⟩
  ·rw[if_neg ha] at hl
   exact⟨_,hl,e,hff⟩
 ·show(D.deepen (nth t.pt f)).shd q=((sumL (xA q h (f+1)) (D.deepen (nth t.pt f)).ts:Nat):Int)
  have hq:(D.deepen (nth t.pt f)).find q=some v:=hq
  rw[hm _ (fun _ _=>rfl)]
  have hs1:sumL (xA q h (f+1)) D.ts=sumL (xA q h f) D.ts+if nth t.pt f=q then 1 else 0:=by
   refine sumL_one (t:=t) I.san.nd htl ?_ (fun u hu hne=>by unfold xA;rw[hch u hu hne])
   have:=cntL_take q t.pt hff
   have h1:qw h f t=f:=by unfold qw;rw[if_neg (by omega),if_pos e]
   unfold xA
   rw[hct,h1,this]
  rw[hs1]
  have hfm:=dR (D:=D) (r:=nth t.pt f) (fun m=>{m with shade:=D.parity,shadow:=D.shd (nth t.pt f)+1}) q
  have hq2:(D.deepen (nth t.pt f)).find q=(D.find q).map (fun u=>if u.at (nth t.pt f) then {u with mr:={u.mr with shade:=D.parity,shadow:=D.shd (nth t.pt f)+1}} else u):=hfm
  cases hv:D.find q with
  |none=>
   rw[hv] at hq2
   rw[hq2] at hq
   cases hq
  |some u=>
   rw[hv] at hq2
   simp only[Option.map_some] at hq2
   have hu:=find_live hv
   have h0:=I.sh q u hv
   have hat:(u.at (nth t.pt f)=true)↔nth t.pt f=q:=by
    have:=(mem_live (t:=u)).1 hu.1
    unfold Th.at
    rw[this.2]
    simp
    rw[hu.2]
    exact eq_comm
   by_cases ha:nth t.pt f=q
   ·rw[if_pos ha]
    rw[if_pos (hat.2 ha)] at hq2
    have:(D.deepen (nth t.pt f)).shd q=D.shd (nth t.pt f)+1:=by
     show(match(D.deepen (nth t.pt f)).find q with|none=>0|some t=>if t.mr.shade=D.parity then t.mr.shadow else 0)=_
     rw[hq2]
     simp
    rw[this,ha,h0]
    omega
   ·rw[if_neg ha]
    rw[if_neg (fun h=>ha (hat.1 h))] at hq2
    have:(D.deepen (nth t.pt f)).shd q=D.shd q:=by
     show(match(D.deepen (nth t.pt f)).find q with|none=>0|some t=>if t.mr.shade=D.parity then t.mr.shadow else 0)=(match D.find q with|none=>0|some t=>if t.mr.shade=D.parity then t.mr.shadow else 0)
     rw[hq2,hv]
    rw[this,h0]
    omega
 ·show s+1=h+sumL (qw h (f+1)) (D.deepen (nth t.pt f)).ts
  rw[hm _ (fun _ _=>rfl),sumL_one (φ:=qw h f) (t:=t) I.san.nd htl hct hch]
  have:=I.st
  omega
 ·obtain⟨v,hv,e1,_⟩:=deepen_mem I.san (show s∈(D.deepen (nth t.pt f)).live from hs)
  rw[e1]
  exact I.hlt v hv
 ·show N+sumL _ (D.deepen (nth t.pt f)).ts≤_
  rw[hm _ (fun _ _=>rfl)]
  exact I.bd
theorem CI.done(I:CI N s h f D)(hk:h<N)(hf:D.find ((h:Int)+1)=some t)(hff:¬f<t.pt.length):CI N (s+1) (h+1) 0 ((D.done ((h:Int)+1)).move ((h:Int)+1) 0):=by
 obtain⟨htl,e⟩:=find_live hf
 have e:t.h=h:=by omega
 have ef:f=t.pt.length:=by
  rcases I.fz with h0|⟨u,hu,e2,h2⟩
  ·omega
  ·rw[I.san.theOne htl hu (by omega)] at h2
   omega
 have hch:∀u,u∈liveL D.ts→qw (h+1) 0 u=qw h f u:=fun u hu=>by
  unfold qw
  by_cases h1:u.h<h
  ·rw[if_pos h1,if_pos (by omega)]
  ·rw[if_neg h1]
   by_cases h2:u.h=h
   ·rw[if_pos h2,if_pos (by omega),I.san.theOne htl hu (by omega),ef]
   ·rw[if_neg h2,if_neg (by omega)]
    split<;>rfl
 have hm:∀φ:Th→Nat,(∀(t:Th) (m:Mrk),φ {t with mr:=m}=φ t)→sumL φ (D.done ((h:Int)+1)).ts=sumL φ D.ts:=fun φ hφ=>sumL_mark _ (fun t=>hφ t _)
 refine⟨(I.san.done _).move _ _,by show(h:Int)+1=_;omega,rfl,I.ph,I.n,hk,fun s hs=> ?_,.inl rfl,fun q v hq=> ?_,?_,fun s hs=> ?_,?_⟩
 ·obtain⟨v,hv,e1,h2⟩:=done_mem I.san (show s∈(D.done ((h:Int)+1)).live from hs)
  have h3:=I.ct v hv
  show s.mr.count=D.parity↔_
  rcases h2 with⟨k,h2⟩|⟨k,h2⟩
  ·rw[h2]
   exact⟨fun _=>by omega,fun _=>rfl⟩
  ·rw[h2,h3]
   omega
 ·show(D.done ((h:Int)+1)).shd q=((sumL (xA q (h+1) 0) (D.done ((h:Int)+1)).ts:Nat):Int)
  have hq:(D.done ((h:Int)+1)).find q=some v:=hq
  rw[hm _ (fun _ _=>rfl),sumL_congr (φ:=xA q (h+1) 0) (ψ:=xA q h f) (fun u hu=>by unfold xA;rw[hch u hu])]
  have hq2:(D.done ((h:Int)+1)).find q=(D.find q).map (fun u=>if u.at ((h:Int)+1) then {u with mr:={u.mr with count:=D.parity}} else u):=dR (D:=D) (r:=(h:Int)+1) (fun m=>{m with count:=D.parity}) q
  cases hv:D.find q with
  |none=>
   rw[hv] at hq2
   rw[hq2] at hq
   cases hq
  |some u=>
   rw[hv] at hq2
   simp only[Option.map_some] at hq2
   have:(D.done ((h:Int)+1)).shd q=D.shd q:=by
    show(match(D.done ((h:Int)+1)).find q with|none=>0|some t=>if t.mr.shade=D.parity then t.mr.shadow else 0)=(match D.find q with|none=>0|some t=>if t.mr.shade=D.parity then t.mr.shadow else 0)
    rw[hq2,hv]
    cases u.at ((h:Int)+1)<;>rfl
   rw[this]
   exact I.sh q u hv
 ·show s+1=h+1+sumL (qw (h+1) 0) (D.done ((h:Int)+1)).ts
  rw[hm _ (fun _ _=>rfl),sumL_congr hch]
  have:=I.st
  omega
 ·obtain⟨v,hv,e1,_⟩:=done_mem I.san (show s∈(D.done ((h:Int)+1)).live from hs)
  rw[e1]
  exact I.hlt v hv
 ·show N+sumL _ (D.done ((h:Int)+1)).ts≤_
  rw[hm _ (fun _ _=>rfl)]
  exact I.bd
theorem CI.tally(I:CI N s h f D)(hk:h<N):∃h' f',CI N (s+1) h' f' D.tally:=by
 have e:D.tallyB=true:=by
  unfold Wd.tallyB
  rw[I.ph,I.cu,I.n]
  simp[hk]
 unfold Wd.tally
 rw[e,if_pos rfl,I.cu]
 cases hf:D.find ((h:Int)+1) with
 |none=>
  unfold Wd.tallyAt
  simp only
  rw[I.cu]
  exact⟨_,_,I.skip hk hf⟩
 |some t=>
  obtain⟨htl,e2⟩:=find_live hf
  unfold Wd.tallyAt
  simp only
  rw[if_neg (fun hc=>by have:=(I.ct t htl).1 hc;omega),I.cu,I.fi]
  by_cases hff:f<t.pt.length
  ·rw[if_pos (by omega)]
   exact⟨_,_,I.deep hf hff⟩
  ·rw[if_neg (by omega)]
   exact⟨_,_,I.done hk hf hff⟩
theorem CI.tb(I:CI N s h f D):D.tallyB=decide (h<N):=by
 unfold Wd.tallyB
 rw[I.ph,I.cu,I.n]
 simp
theorem CI.le(I:CI N s h f D):s≤16*N:=by
 have h1:sumL (qw h f) D.ts≤sumL (fun t=>t.pt.length) D.ts:=qf (fun u hu=>by
  unfold qw
  split
  ·exact Nat.le_refl _
  ·split
   ·rename_i e
    rcases I.fz with h0|⟨t,ht,e2,h2⟩
    ·omega
    ·rw[I.san.theOne ht hu (by omega)]
     exact h2
   ·omega)
 have:=I.st
 have:=I.bd
 have:=I.hN
 omega
theorem CI.Oa(I:CI N s h f D)(q:Int):0≤D.shd q∧D.shd q≤16*(N:Int):=by
 cases hf:D.find q with
 |none=>
  have:D.shd q=0:=by unfold Wd.shd;rw[hf]
  omega
 |some t=>
  rw[I.sh q t hf]
  have h1:sumL (xA q h f) D.ts≤sumL (fun t=>t.pt.length) D.ts:=qf (fun u hu=>by
   unfold xA
   have h1:=tJ q (u.pt.take (qw h f u))
   have h2:=List.length_take_le (qw h f u) u.pt
   rw[List.length_take] at h1
   omega)
  have:=I.bd
  omega
theorem CI.end_(I:CI N s h f D)(hk:¬h<N)(hf:D.find q=some t):D.shd q=((lK (nmT q) D N:Nat):Int)∧D.counted q 0=true:=by
 obtain⟨htl,e⟩:=find_live hf
 have hh:h=N:=by have:=I.hN;omega
 constructor
 ·rw[I.sh q t hf,Ba I.san I.hlt,sumL_congr (φ:=xA q h f) (ψ:=nmT q) (fun u hu=> ?_)]
  have:=I.hlt u hu
  unfold xA nmT qw
  rw[if_pos (by omega),List.take_length]
 ·have h1:=(I.ct t htl).2 (by have:=I.hlt t htl;omega)
  unfold Wd.counted
  rw[hf]
  simp[h1]
theorem wV{t:Th}(g:Mrk→Mrk)(hf:D.find q=some t):∃t',(D.mark r g).find q=some t':=by
 rw[dR,hf]
 exact⟨_,rfl⟩
theorem CK(hf:D.find q=some t):∃t',D.tally.find q=some t':=by
 unfold Wd.tally
 split
 ·unfold Wd.tallyAt
  split
  ·exact⟨t,hf⟩
  ·split
   ·exact⟨t,hf⟩
   ·split
    ·obtain⟨u,hu⟩:=wV (r:=nth _ D.field.toNat) (fun m=>{m with shade:=D.parity,shadow:=D.shd (nth _ D.field.toNat)+1}) hf
     exact⟨u,hu⟩
    ·obtain⟨u,hu⟩:=wV (r:=D.cursor+1) (fun m=>{m with count:=D.parity}) hf
     exact⟨u,hu⟩
 ·exact⟨t,hf⟩
end
set_option maxHeartbeats 1000000 in
theorem Af{w w0:World}{p:Pl}{c:Cf}{D:Wd}(S:San D)(h:fM w p c D w0)(hN:c.N≤1000)(y:Int)(hB:lK (nmT y) D c.N≤4294967295):
  Calls Tryz.prog 31 #[.pointer (some ⟨p.a,0,none⟩),.int .i64 y] w0 fun e w'=>e=.returned (.int .i64 ((lK (nmT y) D c.N:Nat):Int))∧Below w0.heap.size w0 w':=by
 have hfc:=iE (c.N:Int) (c.W:Int) (c.R:Int) (c.K:Int)
 have hsz:=h.sizes
 have HS:=hid h
 have HB:=hid hB
 clear h hB
 go_enter Tryz.func31,Tryz.ntmps31
 go_wp2_with fail
 go_loopw [5,6] (fun n i wr=>∃k m:Nat,k≤c.N∧m=lK (nmT y) D k∧n=.int .i64 (m:Int)∧i=.int .i64 ((k:Int)+1)∧Below w0.heap.size w0 wr) (fun _ i _=>c.N+1-(intOf i).toNat)
 case atStart=>exact⟨0,0,Nat.zero_le _,rfl,rfl,rfl,Below.refl _ _⟩
 case round=>
  obtain⟨k,m,hk,hm,rfl,rfl,hb⟩:=hrel
  have HBl0:=hid hb
  have HM:=hid hm
  have hmB:m≤4294967295:=by rw[hm];exact Nat.le_trans (Eb _ _ hk) HB.out
  have HS0:=hid (HS.out.later hb)
  clear hb hm
  go_wp2_with fail
  refine HS0.out.MI.mono ?_
  rintro e w1 ⟨rfl,hb⟩
  have HBl:=hid (au HBl0.out hb)
  have HS1:=hid (HS0.out.later hb)
  clear hb
  by_cases hlt:k<c.N
  ·have hle:(k:Int)+1≤(c.N:Int):=by omega
   have h64:In64 ((k:Int)+1):=by unfold In64;omega
   have hmx:lK (nmT y) D (k+1)≤4294967295:=Nat.le_trans (Eb _ _ (show k+1≤c.N by omega)) HB.out
   have hsu:lK (nmT y) D (k+1)=lK (nmT y) D k+FD (nmT y) D ((k:Int)+1):=rfl
   cases hf:D.find ((k:Int)+1) with
   |none=>
    have HM2:Hid (m=lK (nmT y) D (k+1)):=hid (by rw[hsu,show FD (nmT y) D ((k:Int)+1)=0 by unfold FD;rw[hf]];exact HM.out)
    clear hsu hmx
    go_wp2_with fail
    refine(Ew hf h64 HS1.out).mono ?_
    rintro e w2 ⟨rfl,hb⟩
    have HB2:=hid (au HBl.out hb)
    clear hb hf
    go_wp2_with fail
    go_roundw
    case rel=>exact⟨k+1,m,by omega,HM2.out,rfl,by go_num,HB2.out.alloc (by have:=HB2.out.size;omega) _⟩
    case measure=>simp[intOf];omega
   |some t=>
    have htl:=(find_live hf).1
    have e0:FD (nmT y) D ((k:Int)+1)=kw (FH y) t.pt t.pt.length:=by unfold FD;rw[hf];exact zz y t.pt
    rw[e0,←HM.out] at hsu
    have HM2:=hid hsu
    have hmx2:m+kw (FH y) t.pt t.pt.length≤4294967295:=by rw[←hsu];exact hmx
    have hp5:=hsz t htl
    clear hsu hmx e0
    go_wp2_with fail
    refine(Jv S hf HS1.out).mono ?_
    rintro e w2 ⟨a1,c1,a2,n2,c2,rfl,r1,hb⟩
    have hbx:=aL.new w2 #[.slice a1 t.pt.length c1,.slice a2 n2 c2] 95
    have q0:=hbx.cell 0 rfl
    have q1:=hbx.cell 1 rfl
    have HRp:=hid (r1.later (ai w2 (.cells #[.slice a1 t.pt.length c1,.slice a2 n2 c2] 95)))
    have HB2:Hid (Below w0.heap.size w0 (w2.alloc (.cells #[.slice a1 t.pt.length c1,.slice a2 n2 c2] 95))):=hid ((au HBl.out hb).alloc (by have:=(au HBl.out hb).size;omega) _)
    have hz1:w2.heap.size<(w2.alloc (.cells #[.slice a1 t.pt.length c1,.slice a2 n2 c2] 95)).heap.size:=by simp
    clear hb hbx r1 hf htl
    go_wp2_with fail
    generalize hw5:w2.alloc _=w5 at*
    clear hw5
    go_loopw [5,29] (fun n i wr=>∃j m2:Nat,j≤t.pt.length∧m2=m+kw (FH y) t.pt j∧n=.int .i64 (m2:Int)∧i=.int .i64 (j:Int)∧wr=w5) (fun _ i _=>t.pt.length-(intOf i).toNat)
    case atStart=>exact⟨0,m,Nat.zero_le _,by rw[Fa];rfl,rfl,rfl,rfl⟩
    case round=>
     obtain⟨j,m2,hj,hm2,rfl,rfl,rfl⟩:=hrel
     have hmB2:m2≤4294967295:=by have:=Kq (FH y) t.pt hj;omega
     by_cases hlt2:j<t.pt.length
     ·obtain⟨bp,op,rfl,hbp,hcp⟩:=HRp.out j hlt2
      have hsu:=xB (FH y) hlt2
      by_cases hy:nth t.pt j=y
      ·have HM3:Hid (m2+1=m+kw (FH y) t.pt (j+1)):=hid (by rw[hsu,show FH y (nth t.pt j)=1 by unfold FH;rw[if_pos hy]];omega)
       rw[hy] at hcp
       clear hsu hm2 hy
       go_wp2_with fail
       go_roundw
       case rel=>exact⟨j+1,m2+1,by omega,HM3.out,by go_num,by go_num,by trivial⟩
       case measure=>simp[intOf];omega
      ·have HM3:Hid (m2=m+kw (FH y) t.pt (j+1)):=hid (by rw[hsu,show FH y (nth t.pt j)=0 by unfold FH;rw[if_neg hy]];omega)
       have hyb:(nth t.pt j==y)=false:=by rw[beq_eq_false_iff_ne];exact hy
       generalize nth t.pt j=x at*
       clear hsu hm2 hy
       go_wp2_with fail
       go_roundw
       case rel=>exact⟨j+1,m2,by omega,HM3.out,rfl,by go_num,by trivial⟩
       case measure=>simp[intOf];omega
     ·obtain rfl:j=t.pt.length:=by omega
      have HM3:Hid (m2=lK (nmT y) D (k+1)):=hid (by rw[HM2.out];exact hm2)
      clear hm2
      go_wp2_with fail
      go_roundw
      case rel=>exact⟨k+1,m2,by omega,HM3.out,rfl,by go_num,HB2.out⟩
      case measure=>simp[intOf];omega
  ·obtain rfl:k=c.N:=by omega
   go_wp2_with fail
   go_ret
   rw[←HM.out]
   exact⟨rfl,HBl.out⟩
theorem BH{g:Th→Th}{r:Int}{s:Th}:∀{l:List Th},s∈updL r g l→s∈l∨∃t,aP r l=some t∧s=g t
 |[],h=>by simp[updL] at h
 |u::l,h=>by
  unfold updL at h
  unfold aP
  cases hu:u.at r with
  |true=>
   rw[hu] at h
   simp only[if_true] at h ⊢
   rcases List.mem_cons.1 h with rfl|h
   ·exact .inr ⟨u,rfl,rfl⟩
   ·exact .inl (List.mem_cons_of_mem _ h)
  |false=>
   rw[hu] at h
   simp only[Bool.false_eq_true,if_false] at h ⊢
   rcases List.mem_cons.1 h with rfl|h
   ·exact .inl (List.mem_cons_self ..)
   ·rcases BH h with h|h
    ·exact .inl (List.mem_cons_of_mem _ h)
    ·exact .inr h
def NU(D:Wd):Prop:=∀t,t∈D.ts→t.ended=false∧(t.mr.dead=true→t.mr.leaves=(t.lv.length:Int))
structure si (L:List Int) (D:Wd):Prop where
 san:San D
 nd:(D.ts.map Th.h).Nodup
 refs:D.df=L
 dy:Dyed D
 fl:NU D
section
variable {L:List Int} {D D':Wd} {t:Th} {w wr:World} {p:Pl} {N k:Nat}
theorem nG.ND(G:nG N D k)(h:Dyed D):si D.df D:=⟨G.san,G.nd,rfl,h,fun t ht=>⟨G.all t ht,fun hd=>by
 have:=G.alive (mem_live.2 ⟨ht,G.all t ht⟩)
 rw[this] at hd
 cases hd⟩⟩
theorem si.inter(F:si L D)(x:Int):si L (D.inter x):=by
 refine⟨F.san.inter x,by rw[mR];exact F.nd,(lG (mR x)).trans F.refs,?_,?_⟩
 ·unfold Wd.inter
  split
  ·unfold Wd.bury
   split
   ·exact F.dy
   ·split
    ·exact F.dy
    ·rename_i t _ _
     exact⟨F.dy.1,by rw[lay_ts];exact updL_P (P:=fun t=>t.mr.count=0∧t.mr.shade=0) (g:=fun s=>{s with mr:={s.mr with dead:=true,left:=(t.pt.length:Int),leaves:=(t.lv.length:Int)}}) (fun t ht=>ht) x F.dy.2⟩
  ·exact F.dy
 ·unfold Wd.inter
  split
  ·unfold Wd.bury
   split
   ·exact F.fl
   ·split
    ·exact F.fl
    ·rename_i t hf _
     intro s hs
     rw[lay_ts] at hs
     rcases BH hs with hs|⟨u,hu,rfl⟩
     ·exact F.fl s hs
     ·have e:u=t:=Option.some.inj (hu.symm.trans hf)
      subst e
      exact⟨(F.fl u (mK hu)).1,fun _=>rfl⟩
  ·exact F.fl
theorem si.len(F:si L D)(hw:D.w=16):sumL (fun t=>t.pt.length) D.ts≤15*sumL oJ D.ts:=oN 15 (fun t ht=>by
 have hm:=(mem_live.1 ht).1
 have hg:=(F.san.ok t ht).qI
 have ho:oJ t=1+t.lv.length:=by
  unfold oJ
  split
  ·rename_i hd
   rw[(F.fl t hm).2 hd]
   simp
  ·rfl
 rw[hw] at hg
 rw[ho]
 by_cases h:t.pt.length+t.dt.length≤16-8
 ·omega
 ·have:=(hg.big h).2
  omega)
theorem si.find(F:si L D){j:Nat}(hj:j<L.length):∃t,D.find (nth L j)=some t:=by
 have hr:=F.refs
 subst hr
 have hj2:j<D.ts.length:=by unfold Wd.df at hj;simpa using hj
 have e:nth D.df j=(D.ts[j].h:Int)+1:=by
  unfold nth Wd.df
  rw[List.getD_eq_getElem?_getD]
  simp[hj2]
 have h:=xP (l:=D.ts) F.nd (List.getElem_mem hj2)
 rw[(F.fl _ (List.getElem_mem hj2)).1] at h
 rw[e]
 exact⟨_,h⟩
theorem si.ci(F:si L D)(h:fM w p (gY N) D wr):CI N 0 0 0 (D.turn.begin 1):=by
 have hl:=F.len h.w16
 have ht:=h.total F.san
 have hc:(gY N).N=N:=rfl
 rw[hc] at ht
 have hn:D.n=N:=by
  obtain⟨zs,m,_,hR,_⟩:=h
  exact hR.n
 have hlt:∀t,t∈D.live→t.h<N:=fun t ht=>by
  obtain⟨zs,m,_,hR,_⟩:=h
  exact hR.hlt ht
 have hp:(D.turn.begin 1).parity=1:=by
  show 1-D.parity=1
  rw[F.dy.1]
  rfl
 have hz:∀u,qw 0 0 u=0:=fun u=>by
  unfold qw
  rw[if_neg (by omega)]
  split<;>rfl
 refine⟨F.san.iN rfl rfl rfl rfl (fun b hb=>.inl hb),rfl,rfl,rfl,hn,Nat.zero_le _,fun t ht=> ?_,.inl rfl,fun q t hq=> ?_,?_,hlt,?_⟩
 ·rw[hp,(F.dy.2 t (mem_live.1 ht).1).1]
  exact⟨fun h=>absurd h (by decide),fun h=>absurd h (Nat.not_lt_zero _)⟩
 ·rw[F.dy.shd hp rfl q,sumL_none (φ:=xA q 0 0) (fun u _=>by unfold xA;rw[hz u];rfl)]
  rfl
 ·rw[sumL_none (φ:=qw 0 0) (fun u _=>hz u)]
 ·show N+sumL (fun t=>t.pt.length) D.ts≤_
  omega
end
set_option maxHeartbeats 4000000 in
theorem sw(n:Nat)(hn:n<256)(a:Option Addr)(cap:Nat)(rs:List (List mh))(b:Option Addr)(capb:Nat)(es:List (List mh))(d:Option Addr)(capd:Nat)(ks:List Int)(w:World)(h1:rs.length≤30)(h2:es.length≤200)(h3:ks.length≤50)
  (hr:kr w a [.int .i64,.int .i64] rs) (he:kr w b [.int .u8,.int .u8,.int .u8] es) (hks:Row w .u8 d ks) (hkk:zb ks):
  Calls Tryz.prog 5 #[.int .u8 (n:Int),.slice a rs.length cap,.slice b es.length capb,.slice d ks.length capd] w fun e w'=>e=.returned (.bool true)∧Below w.heap.size w w':=by
 have g1:¬30<(rs.length:Int):=by omega
 have g2:¬200<(es.length:Int):=by omega
 have g3:¬50<(ks.length:Int):=by omega
 have hfc0:=iE (((n%60+4:Nat)):Int) 16 1 1
 have hfc1:=jQ (((n%60+4:Nat)):Int) 16 1 1
 have HR:=hid hr
 have HE:=hid he
 have HKS:=hid hks
 have HKK:=hid hkk
 have HN63:Hid (n%60+4≤63):=hid (by have:=Nat.mod_lt n (show 0<60 by decide);omega)
 have HGw:=hid (wQ (fun _=>Dyed) n hn a cap rs b capb es w h1 h2 hr he (Dyed.new _ _) (fun k D x y _ _ _ h=>h.grow x y) (fun D r i x h=>h.tie r i x))
 clear hr he hks hkk
 generalize n%60+4=N at*
 have hN63:N≤63:=HN63.out
 go_enter Tryz.func5,Tryz.ntmps5
 go_wp2_with fail
 refine HGw.out.mono ?_
 rintro e w1 ⟨p,lo,v,rfl,⟨D,hS,hGr,hLn,hown,hsz,hdy⟩,hP,hlo⟩
 have hin:∀j,j<D.df.length→In64 (nth D.df j):=fun j hj=>hGr.ug (by omega) hj
 have hF:=hGr.ND hdy
 obtain⟨L,hLe⟩:∃L,L=D.df:=⟨_,rfl⟩
 rw[←hLe] at hown hin hF hLn
 have hL30:L.length≤30:=by omega
 have hob:=aM hown
 obtain⟨a9,c9,rfl,hr9⟩:=dH.jV hown
 have HR9:=hid hr9.row
 have HX9:Hid (il (ah p) a9 L):=hid (fun _ b off e hx=>hP b (hob b (by rw[e];rfl)) (Or.inr hx))
 have HIn:=hid hin
 have HK1:Hid (Row w1 .u8 d ks):=hid (HKS.out.below hS.below (Nat.le_refl _))
 have HXk:Hid (il (ah p) d ks):=hid (HKS.out.out hS.NE)
 have HF0:Hid (∃D,fM w p (gY N) D w1∧si L D):=hid ⟨D,hS,hF⟩
 clear hS hGr hLn hown hsz hP hlo hin hF hLe hob hr9 HGw hdy
 go_wp2_with fail
 go_loopw [43] (fun i wr=>∃k:Nat,k≤ks.length∧i=.int .i64 (k:Int)∧(∃D,fM w p (gY N) D wr∧si L D)∧Touch (ah p) w1 wr) (fun i _=>ks.length-(intOf i).toNat)
 case atStart=>exact⟨0,Nat.zero_le _,rfl,HF0.out,Touch.refl _ _⟩
 case round=>
  obtain⟨k,hk,rfl,⟨D,hS,hF⟩,hT⟩:=hrel
  have HS:=hid hS
  have HF:=hid hF
  have HT:=hid hT
  by_cases hlt:k<ks.length
  ·have hkx:=HKK.out k
   obtain⟨bk,ok,rfl,hbk,hck⟩:=(HK1.out.touch hT HXk.out) k hlt
   obtain⟨x,hx⟩:∃x:Nat,nth ks k=(x:Int):=⟨(nth ks k).toNat,by omega⟩
   rw[hx] at hck hkx
   by_cases hn0:L.length=0
   ·have hg:¬(0:Int)<(L.length:Int):=by omega
    clear hS hF hT hx
    go_wp2_with fail
    go_roundw
    case rel=>exact⟨k+1,by omega,by go_num,⟨D,HS.out,HF.out⟩,HT.out⟩
    case measure=>simp[intOf];omega
   ·have hg:(0:Int)<(L.length:Int):=by omega
    have hnb:((L.length:Int)==0)=false:=by rw[beq_eq_false_iff_ne];omega
    obtain⟨t,et,ht⟩:∃t:Nat,Int.tmod (x:Int) (L.length:Int)=(t:Int)∧t<L.length:=⟨x%L.length,by rw[Int.tmod_eq_emod_of_nonneg (by omega)];rfl,Nat.mod_lt _ (by omega)⟩
    obtain⟨b9,o9,rfl,hb9,hc9⟩:=(HR9.out.touch hT HX9.out) t ht
    have hpb:=hS.uH hF.san
    have HI:=hid (zO (c:=gY N) (D:=D) (HIn.out t ht) hpb.1 hpb.2)
    have HF2:=hid (hF.inter (nth L t))
    generalize nth L t=r at*
    clear hS hF hT hx hpb
    go_wp2_with fail
    refine(HS.out.does HI.out).mono ?_
    rintro e w2 ⟨rfl,hS2,hT2⟩
    have HS2:=hid hS2
    have HT2:=hid (HT.out.trans hT2)
    clear hS2 hT2
    go_wp2_with fail
    go_roundw
    case rel=>exact⟨k+1,by omega,by go_num,⟨_,HS2.out,HF2.out⟩,HT2.out⟩
    case measure=>simp[intOf];omega
  ·have HCi:Hid (CI N 0 0 0 (D.turn.begin 1)):=hid (hF.ci hS)
   obtain⟨vt,ht⟩:=bQ.turn (gY N) D
   have HTu:=hid ht
   have HBe:=hid (um (c:=gY N) (D:=D.turn) 1 (by decide) (by decide))
   have HAr:Hid ((D.turn.begin 1).ts=D.ts):=hid rfl
   clear hS hF hT ht
   go_wp2_with fail
   refine(HS.out.does HTu.out).mono ?_
   rintro e w2 ⟨rfl,hS2,hT2⟩
   have HS2:=hid hS2
   have HT2:=hid (HT.out.trans hT2)
   clear hS2 hT2
   go_wp2_with fail
   refine(HS2.out.does HBe.out).mono ?_
   rintro e w3 ⟨rfl,hS3,hT3⟩
   have HS3:=hid hS3
   have HT3:=hid (HT2.out.trans hT3)
   clear hS3 hT3
   have HFd:Hid (∀j,j<L.length→∃t,(D.turn.begin 1).find (nth L j)=some t):=hid (fun j hj=>HF.out.find hj)
   go_wp2_with fail
   go_loopw [14] (fun x wr=>∃k:Nat,x=.int .i64 (k:Int)∧(∃D h f,fM w p (gY N) D wr∧CI N k h f D∧(∀j,j<L.length→∃t,D.find (nth L j)=some t))∧Touch (ah p) w1 wr) (fun x _=>16*N+1-(intOf x).toNat)
   case atStart=>exact⟨0,rfl,⟨_,_,_,HS3.out,HCi.out,HFd.out⟩,HT3.out⟩
   case round=>
    obtain⟨k,rfl,⟨D,h,f,hS,hC,hfd⟩,hT⟩:=hrel
    have HS:=hid hS
    have HC:=hid hC
    have HFd:=hid hfd
    have HT:=hid hT
    have HStp:=hid (uo (c:=gY N) hC.san (fun q=>by have:=(hC.Oa q).2;omega))
    have htb:=hC.tb
    by_cases hk:h<N
    ·rw[htb,decide_eq_true hk] at HStp
     obtain⟨h',f',hC2⟩:=hC.tally hk
     have hk17:=hC2.le
     have h17:¬((N:Int)*16<(k:Int)+1):=by omega
     have l17:IntKind.i64.wrap ((N:Int)*16)=(N:Int)*16:=IntWalk.i64_in _ (by omega)
     have HC2:=hid hC2
     have HFd2:Hid (∀j,j<L.length→∃t,D.tally.find (nth L j)=some t):=hid (fun j hj=>by
      obtain⟨t,ht⟩:=hfd j hj
      exact CK ht)
     clear hS hC hT hC2 hfd htb
     go_wp2_with fail
     refine(HS.out.does HStp.out).mono ?_
     rintro e w4 ⟨rfl,hS4,hT4⟩
     have HS4:=hid hS4
     have HT4:=hid (HT.out.trans hT4)
     clear hS4 hT4
     go_wp2_with fail
     refine HS4.out.conf.mono ?_
     rintro e w5 ⟨rfl,hb⟩
     have HS5:=hid (HS4.out.later hb)
     have HT5:=hid (HT4.out.trans (Touch.of_below hb))
     clear hb
     go_wp2_with fail
     refine HS5.out.conf.mono ?_
     rintro e w6 ⟨rfl,hb⟩
     have HS6:=hid (HS5.out.later hb)
     have HT6:=hid (HT5.out.trans (Touch.of_below hb))
     clear hb
     go_wp2_with fail
     go_roundw
     case rel=>exact⟨k+1,by go_num,⟨_,_,_,HS6.out,HC2.out,HFd2.out⟩,HT6.out⟩
     case measure=>simp[intOf];omega
    ·rw[htb,decide_eq_false hk] at HStp
     have HStp2:=hid (HStp.out.as rfl (tally_idle (by rw[htb,decide_eq_false hk])))
     have HNm:=hid (fun w5 (y:Int) (h5:fM w p (gY N) D w5)=>Af (c:=gY N) hC.san h5 (by show N≤1000;omega) y (by
      show lK (nmT y) D N≤_
      rw[Ba hC.san hC.hlt]
      have h1:=h5.MN hC.san y
      have h2:100000*(gY N).N≤100000*63:=Nat.mul_le_mul_left _ hN63
      omega))
     clear hS hC hT hfd htb HStp
     go_wp2_with fail
     refine(HS.out.does HStp2.out).mono ?_
     rintro e w4 ⟨rfl,hS4,hT4⟩
     have HS4:=hid hS4
     have HT4:=hid (HT.out.trans hT4)
     clear hS4 hT4
     go_wp2_with fail
     go_loopw [80] (fun i wr=>∃k:Nat,k≤L.length∧i=.int .i64 (k:Int)∧fM w p (gY N) D wr∧Touch (ah p) w1 wr) (fun i _=>L.length-(intOf i).toNat)
     case atStart=>exact⟨0,Nat.zero_le _,rfl,HS4.out,HT4.out⟩
     case round=>
      obtain⟨k,hkl,rfl,hS,hT⟩:=hrel
      have HS:=hid hS
      have HT:=hid hT
      have hRw:=HR9.out.touch hT HX9.out
      by_cases hlt:k<L.length
      ·obtain⟨b9,o9,e9,hb9,hc9⟩:=hRw k hlt
       have h64:=HIn.out k hlt
       obtain⟨t,hf⟩:=HFd.out k hlt
       obtain⟨hsh,hcn⟩:=HC.out.end_ hk hf
       have HSh:=hid ((bQ.shadow (gY N) D (nth L k) h64).as (vi hsh) rfl)
       have HCn:=hid ((bQ.counted (gY N) D (nth L k) 0 h64).as (vb hcn) rfl)
       have HNk:=hid (fun w5 (h5:fM w p (gY N) D w5)=>HNm.out w5 (nth L k) h5)
       subst e9
       rw[show(gY N).N=N from rfl] at HNk
       generalize lK (nmT (nth L k)) D N=M at*
       generalize nth L k=r at*
       clear hS hT hRw hf hsh hcn
       go_wp2_with fail
       refine(HS.out.does HSh.out).mono ?_
       rintro e w5 ⟨rfl,hS5,hT5⟩
       have HS5:=hid hS5
       have HT5:=hid (HT.out.trans hT5)
       clear hS5 hT5
       go_wp2_with fail
       refine(HNk.out w5 HS5.out).mono ?_
       rintro e w6 ⟨rfl,hb⟩
       have HS6:=hid (HS5.out.later hb)
       have HT6:=hid (HT5.out.trans (Touch.of_below hb))
       clear hb
       go_wp2_with fail
       refine(HS6.out.does HCn.out).mono ?_
       rintro e w7 ⟨rfl,hS7,hT7⟩
       have HS7:=hid hS7
       have HT7:=hid (HT6.out.trans hT7)
       clear hS7 hT7
       go_wp2_with fail
       go_roundw
       case rel=>exact⟨k+1,by omega,by go_num,HS7.out,HT7.out⟩
       case measure=>simp[intOf];omega
      ·clear hS hT hRw
       go_wp2_with fail
       refine(eu _).mono ?_
       rintro e w9 ⟨rfl,hb⟩
       have HB9:=hid (au HS.out.below hb)
       clear hb
       go_wp2_with fail
       go_ret
       exact⟨rfl,HB9.out⟩
set_option maxHeartbeats 1000000 in
theorem rq(n:Value)(a:Option Addr)(cap l1:Nat)(b:Option Addr)(capb l2:Nat)(d:Option Addr)(capd l3:Nat)(w:World)(h:¬(l1≤30∧l2≤200∧l3≤50)):
  Calls Tryz.prog 5 #[n,.slice a l1 cap,.slice b l2 capb,.slice d l3 capd] w fun e w'=>e=.returned (.bool true)∧Below w.heap.size w w':=by
 by_cases h1:30<(l1:Int)
 ·clear h
  go_enter Tryz.func5,Tryz.ntmps5
  go_wp2_with fail
  refine(eu _).mono ?_
  rintro e w1 ⟨rfl,hb⟩
  go_wp2_with fail
  go_ret
  exact⟨rfl,hb⟩
 ·skip
  by_cases h2:200<(l2:Int)
  ·clear h
   go_enter Tryz.func5,Tryz.ntmps5
   go_wp2_with fail
   refine(eu _).mono ?_
   rintro e w1 ⟨rfl,hb⟩
   go_wp2_with fail
   go_ret
   exact⟨rfl,hb⟩
  ·skip
   have h3:50<(l3:Int):=by omega
   clear h
   go_enter Tryz.func5,Tryz.ntmps5
   go_wp2_with fail
   refine(eu _).mono ?_
   rintro e w1 ⟨rfl,hb⟩
   go_wp2_with fail
   go_ret
   exact⟨rfl,hb⟩
end Go.Proofs.YtbhhfnlkpieebaaGreat.Pk
