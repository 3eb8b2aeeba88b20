/-
  Texts laid together: RefSee, LinkPl, LinkPi, RefT, Tally, TallyBeg, TallyNob, TallyCnt, TallyHold, TallyCntF.
-/
import Derived.Test.YtjmifnljckmimaaGreatRefG3Etc
import Derived.Test.YtjmifnljckmimaaGreatGravGrownEtc
import Derived.Test.YtjmifnljckmimaaGreatFloodFnEtc
import Derived.Test.YtjmifnljckmimaaGreatTintActFEtc
import Derived.Test.YtjmifnljckmimaaGreatRefMkEtc
import Derived.Test.YtjmifnljckmimaaGreatGravNamEtc
import Derived.Test.YtjmifnljckmimaaGreatTintFn4Etc
namespace Go.Proofs.YtjmifnljckmimaaGreat.Pk
open Go.RowKit
set_option linter.unusedVariables false
set_option linter.unusedSimpArgs false
set_option maxRecDepth 100000
section
variable {w w':World} {lo:Nat} {lab:Nat→Nat} {a:WA} {D:Wd} {i:Nat} {t t':Th} {x:TA} {n v b:Nat} {c:Cf} {zs:List Int}
theorem au.szt(R:au c zs D)(hm:c.May)(S:San D)(htl:t∈D.live):SzT D.w t:=by
 have ho:=R.heap.obs t.ob (R.obMem htl)
 have hw:=hm.w
 have e:t.ob.f=t.pt.length+t.dt.length:=rfl
 have h1:=ho.size
 rw[e] at h1
 rw[R.w]
 refine⟨by omega,by omega,h1,fun hb=> ?_⟩
 have g:=(S.ok t htl).qp.big (by rw[R.w];exact hb)
 rw[R.w] at g
 exact g.2
def Qm(w:World)(v1:Value)(k:Nat)(l:List Int)(wr:World):Prop:=
 wr.ownsRow (w.heap.size+2) 3 1 v1 k (l.map (Value.int .i64))∧Blk wr (w.heap.size+1) #[v1,.slice none 0 0] 57∧Blk wr w.heap.size #[.slice none 0 0,.slice none 0 0] 57∧Below w.heap.size w wr
def Qn(w w8:World)(v1 v2:Value)(k:Nat)(l:List Int)(wr:World):Prop:=
 wr.ownsRow w8.heap.size 119 1 v2 k (l.map (Value.int .u32))∧Blk wr (w.heap.size+1) #[v1,v2] 57∧Blk wr w.heap.size #[.slice none 0 0,.slice none 0 0] 57∧Touch (fun b=>b=w.heap.size+1) w8 wr
theorem Qm.push{w w1:World}{v1 v':Value}{k:Nat}{l:List Int}{y:Int}{wr:World}(h:Qm w v1 k l wr)(hk:l.length=k)(ho:w1.ownsRow (w.heap.size+2) 3 1 v' (k+1) ((l++[y]).map (Value.int .i64)))(hg:(wr.alloc (.cells #[.int .i64 y] 3)).grownBy w1 v1.ownBlock):
  Qm w v' (k+1) (l++[y]) (w1.setCell ⟨w.heap.size+1,0,none⟩ v')∧w1.cell? ⟨w.heap.size+1,0,none⟩=some v1∧w1.frozen? ⟨w.heap.size+1,0,none⟩=false:=by
 obtain⟨h1,h2,h3,h4⟩:=h
 have hn:∀g,v1.ownBlock=some g→w.heap.size+2≤g:=aI h1
 have T:Touch (fun q=>w.heap.size+2≤q) wr w1:=(Touch.of_below (below_new wr _)).trans ((fU hg).mono (fun q _ e=>hn q e))
 have hB:=h2.touch T (by omega)
 have hZ:=h3.touch T (by omega)
 refine⟨⟨?_,hB.put 0 v' rfl,hZ.other (by show w.heap.size+1≠w.heap.size;omega) _,?_⟩,hB.cell 0 rfl,hB.free 0⟩
 ·exact bO ho ((Touch.refl (fun q=>q=w.heap.size+1) w1).setCell (p:=⟨w.heap.size+1,0,none⟩) (fun _=>rfl) v') (fun g hgg e=>by have:=aI ho g hgg;omega)
 ·exact(h4.trans (T.below (fun q hq=>by omega) h4.size)).setCell (by show w.heap.size≤w.heap.size+1;omega) _
theorem Qn.push{w w8 w1:World}{v1 v2 v':Value}{k:Nat}{l:List Int}{y:Int}{wr:World}(h:Qn w w8 v1 v2 k l wr)(hs:w.heap.size+2≤w8.heap.size)(ho:w1.ownsRow w8.heap.size 119 1 v' (k+1) ((l++[y]).map (Value.int .u32)))(hg:(wr.alloc (.cells #[.int .u32 y] 119)).grownBy w1 v2.ownBlock):
  Qn w w8 v1 v' (k+1) (l++[y]) (w1.setCell ⟨w.heap.size+1,1,none⟩ v')∧w1.cell? ⟨w.heap.size+1,1,none⟩=some v2∧w1.frozen? ⟨w.heap.size+1,1,none⟩=false:=by
 obtain⟨h1,h2,h3,h4⟩:=h
 have hn:∀g,v2.ownBlock=some g→w8.heap.size≤g:=aI h1
 have T:Touch (fun q=>w8.heap.size≤q) wr w1:=(Touch.of_below (below_new wr _)).trans ((fU hg).mono (fun q _ e=>hn q e))
 have hB:=h2.touch T (by omega)
 have hZ:=h3.touch T (by omega)
 have T8:Touch (fun q=>q=w.heap.size+1) w8 w1:=by
  have:=h4.size
  refine⟨T.os.trans h4.os,T.tape.trans h4.tape,T.output.trans h4.output,Nat.le_trans h4.size T.size,fun q hq hx=> ?_⟩
  exact(T.block q (by omega) (by omega)).trans (h4.block q hq hx)
 refine⟨⟨?_,hB.put 1 v' rfl,hZ.other (by show w.heap.size+1≠w.heap.size;omega) _,T8.setCell (p:=⟨w.heap.size+1,1,none⟩) (fun _=>rfl) v'⟩,hB.cell 1 rfl,hB.free 1⟩
 exact bO ho ((Touch.refl (fun q=>q=w.heap.size+1) w1).setCell (p:=⟨w.heap.size+1,1,none⟩) (fun _=>rfl) v') (fun g hgg e=>by have:=aI ho g hgg;omega)
theorem Qm.drw{w:World}{v1:Value}{k:Nat}{l:List Int}{wr w2:World}(h:Qm w v1 k l wr)(d:Drw wr w2):Qm w v1 k l w2:=by
 obtain⟨m,rfl⟩:=d
 exact⟨h.1,h.2.1,h.2.2.1,h.2.2.2.trans (Drw.below ⟨m,rfl⟩ _)⟩
theorem Qn.drw{w w8:World}{v1 v2:Value}{k:Nat}{l:List Int}{wr w2:World}(h:Qn w w8 v1 v2 k l wr)(d:Drw wr w2):Qn w w8 v1 v2 k l w2:=by
 obtain⟨m,rfl⟩:=d
 exact⟨h.1,h.2.1,h.2.2.1,h.2.2.2.drewN m⟩
end
section
variable {c:Cf} {zs zs':List Int} {D D':Wd} {t u:Th} {r x y:Int} {w wr w':World} {p:Pl} {q lo m k n:Nat}
structure Sit (c:Cf) (D:Wd):Prop where
 san:San D
 rep:∃zs,Wz c zs∧au c zs D
theorem RSt.sit(h:RSt w p c D wr)(S:San D):Sit c D:=by
 obtain⟨zs,m,hG,hR,_⟩:=h
 exact⟨S,zs,hG.wz,hR⟩
theorem Sit.wb(h:Sit c D)(hN:c.N≤1000):WB D:=by
 obtain⟨zs,hz,R⟩:=h.rep
 have hp:=h.san.vS R hz.may
 have h1:=bX R.ring.nd R.ring.lt
 have h2:(D.grave.map (· -1)).length≤c.N:=bX R.grave.nd R.grave.lt
 have h3:=bX R.heap.pl.ch.nd R.heap.pl.ch.lt
 rw[List.length_map] at h2
 refine⟨by omega,by omega,by omega,hp.1,by omega,fun r t hf=> ?_,fun r t hf=> ?_,fun r t hf=> ?_⟩
 ·have:=(R.sizes hz (find_live hf).1).2;omega
 ·exact R.Ov hz (find_live hf).1
 ·have e:=(R.own t (find_live hf).1).w4
  have:=hz.wf (adr c t.h 4)
  rw[←e]
  exact this
theorem Sit.lens(h:Sit c D):D.ring.length≤c.N∧D.grave.length≤c.N∧D.clean.length≤c.N:=by
 obtain⟨zs,hz,R⟩:=h.rep
 have h1:=bX R.ring.nd R.ring.lt
 have h2:(D.grave.map (· -1)).length≤c.N:=bX R.grave.nd R.grave.lt
 have h3:=bX R.heap.pl.ch.nd R.heap.pl.ch.lt
 rw[List.length_map] at h2
 exact⟨h1,h2,h3⟩
theorem Sit.szt(h:Sit c D)(ht:t∈D.live):SzT D.w t:=by
 obtain⟨zs,hz,R⟩:=h.rep
 exact R.szt hz.may h.san ht
theorem Sit.step(h:Sit c D):Sit c D.step:=by
 obtain⟨zs,hz,R⟩:=h.rep
 obtain⟨zs1,_,R1,hz1⟩:=(MF (c:=c) h.san).at hz R
 exact⟨h.san.step,zs1,hz1,R1⟩
end
section
variable {c:Cf} {D D':Wd} {t u:Th} {r x y:Int} {k K N n:Nat}
def fF(k:Nat)(D:Wd):Prop:=∀q t,D.find q=some t→t.mr.refs≤(k:Int)∧t.mr.shadow≤(k:Int)
theorem fF.mono(h:fF k D)(hk:k≤K):fF K D:=fun q t hf=>by have:=h q t hf;omega
theorem fF.ts(h:fF k D)(e:D'.ts=D.ts):fF k D':=fun q t hf=>h q t (by unfold Wd.find at *;rw[←e];exact hf)
theorem fF.upd(h:fF k D)(r:Int)(g:Th→Th)(hk:k≤K)(hg:∀t,(g t).ended=t.ended∧(g t).h=t.h)(h1:∀t,D.find r=some t→(g t).mr.refs≤(K:Int)∧(g t).mr.shadow≤(K:Int)):fF K (D.upd r g):=fun q s hs=>by
 rw[find_upd hg] at hs
 cases hq:D.find q with
 |none=>rw[hq] at hs;cases hs
 |some t=>
  rw[hq] at hs
  simp only[Option.map_some,Option.some.injEq] at hs
  by_cases e:t.at r=true
  ·rw[if_pos e] at hs
   have hr:q=r:=by
    have:=(find_live hq).2
    unfold Th.at at e
    simp at e
    omega
   subst hs
   exact h1 t (by rw[←hr];exact hq)
  ·rw[if_neg e] at hs
   subst hs
   have:=h q t hq
   omega
theorem fF.mark(h:fF k D)(r:Int)(f:Mrk→Mrk)(hk:k≤K)(h1:∀t,D.find r=some t→(f t.mr).refs≤(K:Int)∧(f t.mr).shadow≤(K:Int)):fF K (D.mark r f):=
 h.upd r (fun t=>{t with mr:=f t.mr}) hk (fun _=>⟨rfl,rfl⟩) h1
theorem fF.keep(h:fF k D)(r:Int)(f:Mrk→Mrk)(h1:∀m,(f m).refs≤m.refs)(h2:∀m,(f m).shadow≤m.shadow):fF k (D.mark r f):=
 h.mark r f (Nat.le_refl _) (fun t ht=>by have:=h r t ht;have:=h1 t.mr;have:=h2 t.mr;omega)
theorem fF.setP(h:fF k D)(r:Int)(i:Nat)(x:Int):fF k (D.setP r i x):=h.upd r (fun t=>{t with pt:=t.pt.set i x}) (Nat.le_refl _) (fun _=>⟨rfl,rfl⟩) (fun t ht=>h r t ht)
theorem fF.touch(h:fF k D)(r:Int):fF k (D.touch r):=by
 rcases touch_ts (D:=D) r with e|e
 ·exact h.ts e
 ·exact(h.keep r (fun m=>{m with color:=D.parity}) (fun _=>Int.le_refl _) (fun _=>Int.le_refl _)).ts e
theorem fF.more(h:fF k D)(r:Int):fF (k+1) (D.more r):=
 (h.mark r (fun m=>{m with refs:=m.refs+1}) (Nat.le_succ k) (fun t ht=>by have:=h r t ht;show t.mr.refs+1≤_∧t.mr.shadow≤_;omega)).touch r
theorem fF.down(h:fF k D)(r:Int):fF k (D.down r):=h.keep r (fun m=>{m with refs:=m.refs-1}) (fun m=>by show m.refs-1≤m.refs;omega) (fun _=>Int.le_refl _)
theorem fF.lighten(h:fF k D)(r:Int):fF k (D.lighten r):=by
 unfold Wd.lighten
 split
 ·exact h.keep r (fun m=>{m with shadow:=m.shadow-1}) (fun _=>Int.le_refl _) (fun m=>by show m.shadow-1≤m.shadow;omega)
 ·exact h
theorem fF.bury(h:fF k D)(x:Int):fF k (D.bury x):=by
 unfold Wd.bury
 cases hf:D.find x with
 |none=>exact h
 |some t=>
  simp only
  split
  ·exact h
  ·have:fF k (D.upd x (fun s=>{s with mr:={s.mr with dead:=true,left:=(t.pt.length:Int),leaves:=(t.lv.length:Int)}})):=h.upd x _ (Nat.le_refl _) (fun _=>⟨rfl,rfl⟩) (fun u hu=>h x u hu)
   exact this.ts (lay_ts x t)
theorem fF.inter(h:fF k D)(x:Int):fF k (D.inter x):=by
 unfold Wd.inter
 split
 ·exact h.bury x
 ·exact h
theorem fF.less(h:fF k D)(r:Int):fF k (D.less r):=((h.down r).ts (D':=(D.down r).sus) rfl).inter r
theorem fF.drain(h:fF k D)(r:Int)(i:Nat)(x:Int):fF k (D.drain r i x):=by
 have key:∀D2:Wd,fF k D2→fF k (if(D2.down x).cnt x=0 then(D2.down x).bury x else D2.down x):=fun D2 h2=>by
  split
  ·exact(h2.down x).bury x
  ·exact h2.down x
 unfold Wd.drain
 by_cases hc:(D.setP r i 0).cnt x=0
 ·rw[if_pos hc];exact h.setP r i 0
 ·rw[if_neg hc]
  refine key _ ?_
  split
  ·exact(h.setP r i 0).lighten x
  ·exact h.setP r i 0
theorem fF.step(h:fF k D)(S:San D):fF k D.step:=by
 cases hg:D.grave with
 |nil=>rw[show D.step=D by unfold Wd.step;rw[hg]];exact h
 |cons g rest=>
  obtain⟨t,htl,_,hf,hd,d,es⟩:=S.head hg
  rw[es]
  unfold Wd.work
  split
  ·exact(h.drain _ _ _).keep _ _ (fun _=>Int.le_refl _) (fun _=>Int.le_refl _)
  ·split
   ·have h1:fF k (D.upd (g:Int) (fun s=>{s with lv:=s.lv.set (t.mr.leaves-1).toNat (-1),mr:={s.mr with leaves:=t.mr.leaves-1}})):=h.upd _ _ (Nat.le_refl _) (fun _=>⟨rfl,rfl⟩) (fun u hu=>h _ u hu)
    exact h1.ts (cut_mark _ _ _ _)
   ·intro q s hs
    have hlive:({({D with grave:=rest}:Wd).endAt (g:Int) t.h with pending:=D.pending-1}:Wd).live=D.live.filter (fun s=>s.h !=t.h):=live_upd_end (g:=fun s=>{s with ended:=true}) (fun _=>rfl) S.nd hf
    obtain⟨hl,e⟩:=find_live hs
    rw[hlive] at hl
    have hl2:=(List.mem_filter.1 hl).1
    have:=S.findIt hl2
    rw[e] at this
    exact h q s this
theorem fF.put(h:fF k D)(r:Int)(i:Nat)(x y:Int):fF (k+1) (D.put r i x y):=by
 have h1:fF (k+1) (D.putS r i x):=by
  unfold Wd.putS
  split
  ·exact(h.setP r i x).mono (Nat.le_succ k)
  ·exact(h.more x).setP r i x
 unfold Wd.put Wd.putY
 split
 ·exact(h1.touch y).less y
 ·exact h1
def Qv(N k:Nat)(l:List Nat):Prop:=l.length≤k∧∀h,h∈l→h<N
theorem wL(x:Int):(D.touch x).ts.map Th.h=D.ts.map Th.h:=by
 rcases touch_ts (D:=D) x with h|h
 ·rw[h]
 ·rw[h];exact dF x _
theorem ut(x:Int):(D.more x).ts.map Th.h=D.ts.map Th.h:=(wL x).trans (dF x _)
theorem zU(x:Int):(D.less x).ts.map Th.h=D.ts.map Th.h:=(lu (D:=(D.down x).sus) x).trans (show(D.down x).sus.ts.map Th.h=D.ts.map Th.h from dF (D:=D) x (fun m=>{m with refs:=m.refs-1}))
theorem PH(r:Int)(i:Nat)(x y:Int):(D.put r i x y).ts.map Th.h=D.ts.map Th.h:=by
 have h1:(D.putS r i x).ts.map Th.h=D.ts.map Th.h:=by
  unfold Wd.putS
  split
  ·exact mH r i x
  ·exact(mH (D:=D.more x) r i x).trans (ut x)
 unfold Wd.put Wd.putY
 split
 ·exact(zU y).trans ((wL y).trans h1)
 ·exact h1
structure PInv (c:Cf) (k:Nat) (D:Wd):Prop where
 san:San D
 bd:fF k D
 hd:Qv c.N k (D.ts.map Th.h)
theorem PInv.new(c:Cf){v:Nat}(hv:16≤v):PInv c 0 (Wd.new c.N v):=⟨San.new c.N hv,fun q t hf=>by simp[Wd.find,Wd.new,findL] at hf,by simp[Wd.new,Qv]⟩
theorem Qv.mono{l:List Nat}(h:Qv N k l)(hk:k≤K):Qv N K l:=⟨Nat.le_trans h.1 hk,h.2⟩
theorem PInv.mono(I:PInv c k D)(hk:k≤K):PInv c K D:=⟨I.san,I.bd.mono hk,I.hd.mono hk⟩
theorem PInv.up(I:PInv c k D):PInv c (k+1) D:=I.mono (Nat.le_succ k)
theorem PInv.to(I:PInv c k D)(S:San D')(B:fF (k+1) D')(e:D'.ts.map Th.h=D.ts.map Th.h):PInv c (k+1) D':=⟨S,B,by rw[e];exact I.hd.mono (Nat.le_succ k)⟩
theorem PInv.step(I:PInv c k D):PInv c k D.step:=⟨I.san.step,I.bd.step I.san,by rw[Au];exact I.hd⟩
theorem PInv.put(I:PInv c k D)(hf:D.find r=some t)(hd:t.mr.dead=false)(i:Nat)(x y:Int):PInv c (k+1) (D.put r i x y):=
 I.to (I.san.Rx hf hd) (I.bd.put r i x y) (PH r i x y)
theorem PInv.turn(I:PInv c k D):PInv c (k+1) D.turn:=I.to (I.san.same_but rfl rfl rfl rfl (fun b hb=>.inl hb)) ((I.bd.mono (Nat.le_succ k)).ts rfl) rfl
theorem PInv.nJ(I:PInv c k D)(i:Int):PInv c (k+1) (D.nJ i):=by
 unfold Wd.nJ
 split
 ·exact I.to (I.san.same_but rfl rfl rfl rfl (fun b hb=>.inl hb)) ((I.bd.mono (Nat.le_succ k)).ts rfl) rfl
 ·exact I.up
theorem PInv.aR(I:PInv c k D)(r:Int):PInv c (k+1) (D.aR r):=by
 refine I.to (I.san.mark r (fun _=>rfl) (fun _=>rfl) (fun _=>rfl)) (I.bd.mark r _ (Nat.le_succ k) (fun t ht=> ?_)) (dF r _)
 have h1:=I.bd r t ht
 refine⟨by show t.mr.refs≤_;omega,?_⟩
 show D.shd r+1≤_
 unfold Wd.shd
 rw[ht]
 show(if t.mr.shade=D.parity then t.mr.shadow else 0)+1≤_
 split<;>omega
theorem PInv.done(I:PInv c k D)(r:Int):PInv c (k+1) (D.done r):=
 I.to (I.san.mark r (fun _=>rfl) (fun _=>rfl) (fun _=>rfl)) ((I.bd.keep r (fun m=>{m with count:=D.parity}) (fun _=>Int.le_refl _) (fun _=>Int.le_refl _)).mono (Nat.le_succ k)) (dF r _)
theorem yz:∀{l1 l2:List Th} {q:Int} {s:Th},findL q (l1++l2)=some s→findL q l1=some s∨findL q l2=some s
 |[],l2,q,s,h=>.inr h
 |u::l,l2,q,s,h=>by
  have e0:findL q ((u::l)++l2)=if u.at q then some u else findL q (l++l2):=rfl
  have e1:findL q (u::l)=if u.at q then some u else findL q l:=rfl
  rw[e0] at h
  rw[e1]
  by_cases e:u.at q=true
  ·rw[if_pos e] at h ⊢;exact .inl h
  ·rw[if_neg e] at h ⊢;exact yz h
theorem PInv.born(I:PInv c k D)(B:BornOk D x y c.N):PInv c (k+1) (D.born x y):=by
 refine⟨B.Rz I.san,?_,?_⟩
 ·unfold Wd.born
  split
  ·rename_i hE
   have h1:fF k (D.mkD x y):=by
    unfold Wd.mkD
    rw[if_pos hE]
    intro q s hs
    have hs:findL q (D.ts++[_])=some s:=hs
    rcases yz hs with h|h
    ·exact I.bd q s h
    ·have:s=⟨D.mkB,ints (D.clean.tail.take (D.mkN x y)),zer x.toNat,zer y.toNat,false,Mrk.new⟩:=by
      unfold findL at h
      split at h
      ·exact(Option.some.inj h).symm
      ·simp[findL] at h
     subst this
     show(0:Int)≤_∧(0:Int)≤_
     omega
   exact(h1.mark _ _ (Nat.le_refl _) (fun t ht=>⟨(h1 _ t ht).1,by show(0:Int)≤_;omega⟩)).more _
  ·exact I.bd.mono (Nat.le_succ k)
 ·unfold Wd.born
  split
  ·rename_i hE
   have e1:(((D.mkD x y).dye (D.mkR x y)).more (D.mkR x y)).ts.map Th.h=(D.mkD x y).ts.map Th.h:=(ut _).trans (dF _ _)
   have e2:(D.mkD x y).ts.map Th.h=D.ts.map Th.h++[D.mkB]:=by unfold Wd.mkD;rw[if_pos hE];show(D.ts++[_]).map Th.h=_;rw[List.map_append];rfl
   rw[e1,e2]
   refine⟨by rw[List.length_append];have:=I.hd.1;simp at *;omega,fun h hh=> ?_⟩
   rcases List.mem_append.1 hh with hh|hh
   ·exact I.hd.2 h hh
   ·rw[List.mem_singleton.1 hh];exact B.lt hE
  ·exact I.hd.mono (Nat.le_succ k)
end
def Wd.bf(D:Wd):Bool:=decide (D.phase=1)&&decide (D.cursor<(D.n:Int))
def Wd.tallyAt(D:Wd):Option Th→Wd
 |none=>D.move (D.cursor+1) 0
 |some t=>if t.mr.count=D.parity then D.move (D.cursor+1) 0
  else if D.field<(t.pt.length:Int) then(D.aR (nth t.pt D.field.toNat)).move D.cursor (D.field+1)
  else(D.done (D.cursor+1)).move (D.cursor+1) 0
def Wd.tally(D:Wd):Wd:=if D.bf then D.tallyAt (D.find (D.cursor+1)) else D
section
variable {w w':World} {lo:Nat} {lab:Nat→Nat} {a:WA} {D D':Wd} {i:Nat} {t t' u:Th} {x:TA}
theorem WAt.move(h:WAt w lo lab a D)(c f:Int):WAt ((w.setCell ⟨a.q,4,none⟩ (.int .i64 c)).setCell ⟨a.q,5,none⟩ (.int .i64 f)) lo lab a (D.move c f):=by
 have k2:=h.setNum (D':={D with cursor:=c}) (k:=4) (u:=.int .i64 c) rfl rfl rfl rfl rfl rfl rfl
 exact k2.setNum (D':=D.move c f) (k:=5) (u:=.int .i64 f) rfl rfl rfl rfl rfl rfl rfl
theorem Touch.move{q:Nat}(h:Touch (fun b=>lo≤b) w w')(hq:lo≤q)(c f:Int):Touch (fun b=>lo≤b) w ((w'.setCell ⟨q,4,none⟩ (.int .i64 c)).setCell ⟨q,5,none⟩ (.int .i64 f)):=
 (h.setCell (p:=⟨q,4,none⟩) (fun _=>hq) _).setCell (p:=⟨q,5,none⟩) (fun _=>hq) _
end
section
variable {c:Cf} {zs:List Int} {D:Wd} {t:Th} {r:Int} {k:Nat}
theorem Gf(S:San D)(hz:Wz c zs)(R:au c zs D)(hf:D.find r=some t){i:Nat}(hi:i<t.pt.length):
  In64 (nth t.pt i)∧∃e:Int,gu c 70 [.int .i64 r,.int .i64 (i:Int)] zs 12 zs (.tuple #[.int .i64 (nth t.pt i),.int .i64 e]):=by
 have hr:=find64 hz.may R hf
 obtain⟨htl,_⟩:=find_live hf
 have hk:=S.ok t htl
 cases ha:aM c t.ob i with
 |some a=>
  obtain⟨h1,b0,b1⟩:=qN hz R hr hf hi ha
  exact⟨by constructor<;>omega,0,h1⟩
 |none=>
  have h0:nth t.pt i=0:=by
   cases hd:t.mr.dead with
   |true=>
    have d:=hk.dead hd
    by_cases hl:(i:Int)<t.mr.left
    ·obtain⟨_,a,h⟩:=d.field hz.may R.w.symm hk.qp hl
     rw[ha] at h
     cases h
    ·exact d.zero i (by omega)
   |false=>
    obtain⟨a,h⟩:=(hk.alive hd).field hz.may R.w.symm hk.qp hi
    rw[ha] at h
    cases h
  have hob:=obAt_find R r
  rw[hf] at hob
  have e1:qM c zs D.obs r (i:Int)=nth t.pt i:=by
   unfold qM
   rw[hob]
   show(if jQ (i:Int) t.ob.np then dS c zs t.ob (i:Int).toNat else 0)=_
   rw[if_pos (iP (show i<t.ob.np from hi)),Int.toNat_natCast]
   unfold dS
   rw[ha,h0]
  have h:=objFns.ptr c zs D.clean D.obs r (i:Int) hz R.heap hr
  rw[e1] at h
  exact⟨by rw[h0];constructor<;>omega,_,h⟩
theorem zS(S:San D)(hf:D.find r=some t){f:Int}(hn:¬f<(t.pt.length:Int)):Does c D 136 [.int .i64 r,.int .i64 f] 12 D (.bool false):=fun zs hz R=>by
 have hob:=obAt_find R r
 rw[hf] at hob
 obtain⟨d1,hd1,C1⟩:=objFns.iC c zs D.clean D.obs r t.ob hz R.heap hob
 exact⟨zs,⟨d1,hd1,AU (n:=(t.ob.np:Int)) hn C1⟩,R⟩
theorem Ij(S:San D)(hf:D.find r=some t){j:Nat}(hj:j<t.pt.length)(hb:D.shd (nth t.pt j)<4294967295):Does c D 136 [.int .i64 r,.int .i64 (j:Int)] 33 (D.aR (nth t.pt j)) (.bool true):=fun zs hz R=>by
 have hob:=obAt_find R r
 rw[hf] at hob
 obtain⟨d1,hd1,C1⟩:=objFns.iC c zs D.clean D.obs r t.ob hz R.heap hob
 obtain⟨h64,e,d2,hd2,C2⟩:=Gf S hz R hf hj
 obtain⟨zs3,⟨d3,hd3,C3⟩,R3,hz3⟩:=(tintFns.aR c D (nth t.pt j) h64 hb).at hz R
 have hn:(j:Int)<(t.ob.np:Int):=by show(j:Int)<(t.pt.length:Int);omega
 exact⟨zs3,⟨d1+d2+d3,by omega,Jf hn C1 C2 C3⟩,R3⟩
theorem Iu{x y:Int}(h0:0≤x)(h1:x≤4294967295)(h2:0≤y)(h3:y≤4294967295):D.yJ x y=D.move x y:=by
 unfold Wd.yJ KH
 rw[if_pos (by simp[h0,h1,h2,h3])]
theorem Nc{x y:Int}(h0:0≤x)(h1:x≤4294967295)(h2:0≤y)(h3:y≤4294967295):KH x y=true:=by
 unfold KH
 simp[h0,h1,h2,h3]
theorem iZ{x y:Int}(h0:0≤x)(h1:x≤4294967295)(h2:0≤y)(h3:y≤4294967295):Does c D 53 [.int .i64 x,.int .i64 y] 2 (D.move x y) (.bool true):=by
 have h:=tintFns.move c D x y
 rw[Iu h0 h1 h2 h3,Nc h0 h1 h2 h3] at h
 exact h
theorem au.curs(R:au c zs D)(hz:Wz c zs):(0≤D.cursor∧D.cursor≤4294967295)∧0≤D.field∧D.field≤4294967295:=by
 have h1:=R.reg 12 (by omega) (by omega)
 have h2:=R.reg 13 (by omega) (by omega)
 have e1:D.reg 12=D.cursor:=rfl
 have e2:D.reg 13=D.field:=rfl
 rw[e1] at h1
 rw[e2] at h2
 have b1:=hz.wf 12
 have b2:=hz.wf 13
 rw[←h1,←h2]
 exact⟨b1,b2⟩
theorem Kt(S:San D)(hb:∀q,D.shd q<4294967295):Does c D 76 [] 96 D.tally (.bool D.bf):=fun zs hz R=>by
 have hm:=hz.may
 have hmn:=hm.n
 have hN:=R.n
 obtain⟨⟨k0,k1⟩,f0,f1⟩:=R.curs hz
 obtain⟨zs1,⟨d1,hd1,C1⟩,R1,hz1⟩:=(tintFns.at_ c D).at hz R
 obtain⟨zs2,⟨d2,hd2,C2⟩,R2,hz2⟩:=(tintFns.phase c D).at hz1 R1
 by_cases hp:D.phase=1
 ·rw[hp] at C2
  by_cases hk:D.cursor<(D.n:Int)
  ·have e:D.bf=true:=by unfold Wd.bf;simp[hp,hk]
   have hk':D.cursor<(c.N:Int):=by rw[←hN];exact hk
   have hr:In64 (D.cursor+1):=by constructor<;>omega
   unfold Wd.tally
   rw[e,if_pos rfl]
   obtain⟨zs3,⟨d3,hd3,C3⟩,R3,hz3⟩:=(Gd (c:=c) (D:=D) hr).at hz2 R2
   cases hf:D.find (D.cursor+1) with
   |none=>
    rw[hf] at C3
    obtain⟨zs4,⟨d4,hd4,C4⟩,R4,hz4⟩:=(iZ (c:=c) (D:=D) (x:=D.cursor+1) (y:=0) (by omega) (by omega) (by omega) (by omega)).at hz3 R3
    exact⟨zs4,⟨d1+d2+d3+d4,by omega,AR k0 hk' hm C1 C2 C3 C4⟩,R4⟩
   |some t=>
    rw[hf] at C3
    obtain⟨zs4,⟨d4,hd4,C4⟩,R4,hz4⟩:=(tintFns.counted c D (D.cursor+1) D.field hr).at hz3 R3
    have hc:D.counted (D.cursor+1) D.field=decide (t.mr.count=D.parity):=by
     unfold Wd.counted
     rw[hf]
     simp[f0]
    rw[hc] at C4
    unfold Wd.tallyAt
    by_cases hct:t.mr.count=D.parity
    ·rw[show decide (t.mr.count=D.parity)=true from decide_eq_true hct] at C4
     obtain⟨zs5,⟨d5,hd5,C5⟩,R5,hz5⟩:=(iZ (c:=c) (D:=D) (x:=D.cursor+1) (y:=0) (by omega) (by omega) (by omega) (by omega)).at hz4 R4
     simp only[hct,if_true]
     exact⟨zs5,⟨d1+d2+d3+d4+d5,by omega,ul k0 hk' hm C1 C2 C3 C4 C5⟩,R5⟩
    ·rw[show decide (t.mr.count=D.parity)=false from decide_eq_false hct] at C4
     simp only[hct,if_false]
     by_cases hff:D.field<(t.pt.length:Int)
     ·obtain⟨j,hj⟩:=Int.eq_ofNat_of_zero_le f0
      have hjl:j<t.pt.length:=by omega
      have hsz:=(R4.szt hm S (find_live hf).1).small
      obtain⟨zs5,⟨d5,hd5,C5⟩,R5,hz5⟩:=(Ij (c:=c) S hf hjl (hb _)).at hz4 R4
      obtain⟨zs6,⟨d6,hd6,C6⟩,R6,hz6⟩:=(iZ (c:=c) (D:=D.aR (nth t.pt j)) (x:=D.cursor) (y:=(j:Int)+1) (by omega) (by omega) (by omega) (by omega)).at hz5 R5
      simp only[hff,if_true]
      rw[hj] at C1 C4 ⊢
      rw[Int.toNat_natCast]
      exact⟨zs6,⟨d1+d2+d3+d4+d5+d6,by omega,AP (f:=(j:Int)) (by omega) (by omega) k0 hk' hm C1 C2 C3 C4 C5 C6⟩,R6⟩
     ·obtain⟨zs5,⟨d5,hd5,C5⟩,R5,hz5⟩:=(zS (c:=c) S hf hff).at hz4 R4
      obtain⟨zs6,⟨d6,hd6,C6⟩,R6,hz6⟩:=(tintFns.done c D (D.cursor+1) hr).at hz5 R5
      obtain⟨zs7,⟨d7,hd7,C7⟩,R7,hz7⟩:=(iZ (c:=c) (D:=D.done (D.cursor+1)) (x:=D.cursor+1) (y:=0) (by omega) (by omega) (by omega) (by omega)).at hz6 R6
      simp only[hff,if_false]
      exact⟨zs7,⟨d1+d2+d3+d4+d5+d6+d7,by omega,AQ k0 hk' hm C1 C2 C3 C4 C5 C6 C7⟩,R7⟩
  ·have e:D.bf=false:=by unfold Wd.bf;simp[hk]
   unfold Wd.tally
   rw[e,if_neg (by decide)]
   exact⟨zs2,⟨d1+d2,by omega,Ea (by rw[←hN];omega) C1 C2⟩,R2⟩
 ·have e:D.bf=false:=by unfold Wd.bf;simp[hp]
  unfold Wd.tally
  rw[e,if_neg (by decide)]
  exact⟨zs2,⟨d1+d2,by omega,yg hp C1 C2⟩,R2⟩
theorem San.move(S:San D)(x y:Int):San (D.move x y):=S.same_but rfl rfl rfl rfl (fun b hb=>.inl hb)
theorem San.aR(S:San D)(x:Int):San (D.aR x):=S.mark x (fun _=>rfl) (fun _=>rfl) (fun _=>rfl)
theorem San.done(S:San D)(x:Int):San (D.done x):=S.mark x (fun _=>rfl) (fun _=>rfl) (fun _=>rfl)
theorem San.tally(S:San D):San D.tally:=by
 unfold Wd.tally
 split
 ·unfold Wd.tallyAt
  split
  ·exact S.move _ _
  ·split
   ·exact S.move _ _
   ·split
    ·exact(S.aR _).move _ _
    ·exact(S.done _).move _ _
 ·exact S
theorem fF.shd(h:fF k D)(q:Int):D.shd q≤(k:Int):=by
 unfold Wd.shd
 split
 ·omega
 ·rename_i t hf
  have:=h q t hf
  split<;>omega
theorem fF.aR(h:fF k D)(x:Int):fF (k+1) (D.aR x):=by
 have hs:=h.shd x
 exact h.mark x _ (Nat.le_succ k) (fun t ht=>by have:=h x t ht;show t.mr.refs≤_∧D.shd x+1≤_;omega)
theorem fF.done(h:fF k D)(x:Int):fF k (D.done x):=h.keep x _ (fun _=>Int.le_refl _) (fun _=>Int.le_refl _)
theorem fF.move(h:fF k D)(x y:Int):fF k (D.move x y):=h.ts rfl
theorem fF.tally(h:fF k D):fF (k+1) D.tally:=by
 have h':=h.mono (Nat.le_succ k)
 unfold Wd.tally
 split
 ·unfold Wd.tallyAt
  split
  ·exact h'.move _ _
  ·split
   ·exact h'.move _ _
   ·split
    ·exact(h.aR _).move _ _
    ·exact(h'.done _).move _ _
 ·exact h'
theorem LD:D.tally.ts.map Th.h=D.ts.map Th.h:=by
 unfold Wd.tally
 split
 ·unfold Wd.tallyAt
  split
  ·rfl
  ·split
   ·rfl
   ·split
    ·show(D.aR _).ts.map Th.h=_
     unfold Wd.aR
     exact dF _ _
    ·show(D.done _).ts.map Th.h=_
     unfold Wd.done
     exact dF _ _
 ·rfl
theorem PInv.tally(I:PInv c k D):PInv c (k+1) D.tally:=I.to I.san.tally I.bd.tally LD
end
section
variable {w wr w':World} {p:Pl} {q lo m k n:Nat} {c:Cf} {D D2 D':Wd} {t u:Th} {r i x y sp sd:Int}
theorem ld_begin(ph:Int)(h0:0≤ph)(h3:ph≤3):Does c D 21 [.int .i64 ph] 5 (D.begin ph) (.bool true):=by
 have h:=tintFns.begin_ c D ph
 have e:phB ph=true:=decide_eq_true ⟨h0,h3⟩
 unfold Wd.nJ at h
 rw[e,if_pos rfl] at h
 exact h
theorem PInv.begin_(I:PInv c k D)(ph:Int):PInv c (k+1) (D.begin ph):=I.to (I.san.same_but rfl rfl rfl rfl (fun b hb=>.inl hb)) ((I.bd.mono (Nat.le_succ k)).ts rfl) rfl
theorem mQ(h:D.bf=false):D.tally=D:=by unfold Wd.tally;rw[h];rfl
end
section
variable {D:Wd} {x:Int}
end
theorem iI{P:Th→Prop}{g:Th→Th}(hg:∀t,P t→P (g t))(r:Int):∀{l:List Th},(∀t,t∈l→P t)→∀t,t∈updL r g l→P t
 |[],_,t,ht=>by simp[updL] at ht
 |u::l,h,t,ht=>by
  unfold updL at ht
  split at ht
  ·rcases List.mem_cons.1 ht with rfl|ht
   ·exact hg u (h u (by simp))
   ·exact h t (List.mem_cons_of_mem _ ht)
  ·rcases List.mem_cons.1 ht with rfl|ht
   ·exact h _ (List.mem_cons_self ..)
   ·exact iI hg r (fun t ht=>h t (List.mem_cons_of_mem _ ht)) t ht
def bu(D:Wd):Prop:=D.parity=0∧∀t,t∈D.ts→t.mr.count=0∧t.mr.shade=0
section
variable {D D':Wd} {x y r:Int}
theorem bu.new(n w:Nat):bu (Wd.new n w):=⟨rfl,fun t ht=>by simp[Wd.new] at ht⟩
theorem bu.mark(h:bu D)(r:Int){f:Mrk→Mrk}(hf:∀m,m.count=0∧m.shade=0→(f m).count=0∧(f m).shade=0):bu (D.mark r f):=
 ⟨h.1,iI (P:=fun t=>t.mr.count=0∧t.mr.shade=0) (fun t ht=>hf t.mr ht) r h.2⟩
theorem bu.mkD(h:bu D)(x y:Int):bu (D.mkD x y):=by
 unfold Wd.mkD
 by_cases hE:D.mkE x y=0
 ·rw[if_pos hE]
  refine⟨h.1,fun t ht=> ?_⟩
  rcases List.mem_append.1 (show t∈D.ts++[_] from ht) with ht|ht
  ·exact h.2 t ht
  ·obtain rfl:=List.mem_singleton.1 ht
   exact⟨rfl,rfl⟩
 ·rw[if_neg hE]
  exact h
theorem bu.dye(h:bu D)(r:Int):bu (D.dye r):=h.mark r (fun m _=>⟨h.1,h.1⟩)
theorem bu.grow(h:bu D)(x y:Int):bu (D.grow x y):=by
 unfold Wd.grow
 split
 ·exact(h.mkD x y).dye _
 ·exact h
theorem bu.setP(h:bu D)(r:Int)(i:Nat)(x:Int):bu (D.setP r i x):=⟨h.1,iI (P:=fun t=>t.mr.count=0∧t.mr.shade=0) (g:=fun t=>{t with pt:=t.pt.set i x}) (fun t ht=>ht) r h.2⟩
theorem bu.tie(h:bu D)(r:Int)(i:Nat)(x:Int):bu ((D.setP r i x).up x):=(h.setP r i x).mark _ (fun m hm=>hm)
theorem ig{q:Int}{t:Th}:∀{l:List Th},findL q l=some t→t∈l
 |u::l,h=>by
  unfold findL at h
  split at h
  ·cases h
   simp
  ·exact List.mem_cons_of_mem _ (ig h)
theorem bu.shd(h:bu D)(hp:D'.parity=1)(ht:D'.ts=D.ts)(q:Int):D'.shd q=0:=by
 unfold Wd.shd
 cases hf:D'.find q with
 |none=>rfl
 |some t=>
  have hm:t∈D.ts:=by rw[←ht];exact ig hf
  simp only
  rw[if_neg (by rw[(h.2 t hm).2,hp];decide)]
end
theorem wF{D:Wd}(h:D.phase≠1):D.bf=false:=by
 unfold Wd.bf
 rw[decide_eq_false h]
 rfl
def sQ(h f:Nat)(u:Th):Nat:=if u.h<h then u.pt.length else if u.h=h then f else 0
def AZ(q:Int)(h f:Nat)(u:Th):Nat:=bF q (u.pt.take (sQ h f u))
theorem oD(q:Int):∀(l:List Int) {f:Nat},f<l.length→bF q (l.take (f+1))=bF q (l.take f)+if nth l f=q then 1 else 0
 |[],f,h=>by simp at h
 |a::l,0,_=>by simp[bF,nth]
 |a::l,f+1,h=>by
  have:=oD q l (f:=f) (by simpa using h)
  have e:nth (a::l) (f+1)=nth l f:=rfl
  rw[e]
  simp only[List.take_succ_cons,bF]
  omega
theorem lL{φ ψ:Th→Nat}{t:Th}{d:Nat}:∀{l:List Th},((aF l).map Th.h).Nodup→t∈aF l→ψ t=φ t+d→(∀u,u∈aF l→u.h≠t.h→ψ u=φ u)→sumL ψ l=sumL φ l+d
 |[],_,h,_,_=>by simp[aF] at h
 |u::l,hn,h,hd,ho=>by
  rw[aO,aO]
  rw[av] at hn h ho
  cases hu:u.ended with
  |true=>
   rw[hu] at hn h ho
   simp at hn h ho ⊢
   exact lL (φ:=φ) (ψ:=ψ) hn h hd ho
  |false=>
   rw[hu] at hn h ho
   simp at hn h ho ⊢
   rcases h with rfl|h
   ·have:sumL ψ l=sumL φ l:=bY (fun v hv=>ho.2 v hv (fun e=>hn.1 v hv e))
    omega
   ·have h1:=lL (φ:=φ) (ψ:=ψ) hn.2 h hd ho.2
    have h2:=ho.1 (fun e=>hn.1 t h e.symm)
    omega
section
variable {D D':Wd} {t u:Th} {N s h f:Nat} {q x r:Int}
theorem pM(S:San D)(hs:u∈(D.aR x).live):∃v,v∈D.live∧u.h=v.h∧u.mr.count=v.mr.count:=by
 unfold Wd.aR at hs
 obtain⟨v,hv,e1,_,h2⟩:=bC S hs
 exact⟨v,hv,e1,by rcases h2 with⟨_,h2⟩|⟨_,h2⟩<;>rw[h2]⟩
theorem uT(S:San D)(hs:u∈(D.done x).live):∃v,v∈D.live∧u.h=v.h∧((v.h:Int)+1=x∧u.mr.count=D.parity∨(v.h:Int)+1≠x∧u.mr.count=v.mr.count):=by
 unfold Wd.done at hs
 obtain⟨v,hv,e1,_,h2⟩:=bC S hs
 exact⟨v,hv,e1,by
  rcases h2 with⟨h,h2⟩|⟨h,h2⟩
  ·exact .inl ⟨h,by rw[h2]⟩
  ·exact .inr ⟨h,by rw[h2]⟩⟩
structure CI (N s h f:Nat) (D:Wd):Prop where
 san:San D
 cu:D.cursor=(h:Int)
 fi:D.field=(f:Int)
 ph:D.phase=1
 n:D.n=N
 hN:h≤N
 ct:∀t,t∈D.live→(t.mr.count=D.parity↔t.h<h)
 fz:f=0∨∃t,t∈D.live∧t.h=h∧f≤t.pt.length
 sh:∀q t,D.find q=some t→D.shd q=((sumL (AZ q h f) D.ts:Nat):Int)
 st:s=h+sumL (sQ h f) D.ts
 hlt:∀t,t∈D.live→t.h<N
 bd:N+sumL (fun t=>t.pt.length) D.ts≤16*N
theorem San.theOne(S:San D)(ht:t∈D.live)(hu:u∈D.live)(e:u.h=t.h):u=t:=by
 have h1:=S.findIt ht
 have h2:=S.findIt hu
 rw[e,h1] at h2
 exact(Option.some.inj h2).symm
theorem CI.skip(I:CI N s h f D)(hk:h<N)(hf:D.find ((h:Int)+1)=none):CI N (s+1) (h+1) 0 (D.move ((h:Int)+1) 0):=by
 have hno:∀u,u∈D.live→u.h≠h:=fun u hu e=>by
  have:=I.san.findIt hu
  rw[e,hf] at this
  cases this
 have f0:f=0:=by
  rcases I.fz with h0|⟨t,ht,e,_⟩
  ·exact h0
  ·exact absurd e (hno t ht)
 subst f0
 have hc:∀u,u∈aF D.ts→sQ (h+1) 0 u=sQ h 0 u:=fun u hu=>by
  have:=hno u hu
  unfold sQ
  by_cases h1:u.h<h
  ·rw[if_pos h1,if_pos (by omega)]
  ·rw[if_neg h1,if_neg (by omega)]
   split<;>first|rfl|(split<;>rfl)
 refine⟨I.san.move _ _,rfl,rfl,I.ph,I.n,hk,fun t ht=> ?_,.inl rfl,fun q t hq=> ?_,?_,I.hlt,I.bd⟩
 ·have:=hno t ht
  exact(I.ct t ht).trans (by omega)
 ·show D.shd q=((sumL (AZ q (h+1) 0) D.ts:Nat):Int)
  rw[I.sh q t hq,bY (φ:=AZ q (h+1) 0) (ψ:=AZ q h 0) (fun u hu=>by unfold AZ;rw[hc u hu])]
 ·show s+1=h+1+sumL (sQ (h+1) 0) D.ts
  rw[bY hc]
  have:=I.st
  omega
theorem CI.deep(I:CI N s h f D)(hf:D.find ((h:Int)+1)=some t)(hff:f<t.pt.length):CI N (s+1) h (f+1) ((D.aR (nth t.pt f)).move (h:Int) ((f:Int)+1)):=by
 obtain⟨htl,e⟩:=find_live hf
 have e:t.h=h:=by omega
 have hch:∀u,u∈aF D.ts→u.h≠t.h→sQ h (f+1) u=sQ h f u:=fun u hu hne=>by
  unfold sQ
  split
  ·rfl
  ·rw[if_neg (by omega),if_neg (by omega)]
 have hct:sQ h (f+1) t=sQ h f t+1:=by
  unfold sQ
  rw[if_neg (by omega),if_pos e,if_neg (by omega),if_pos e]
 have hm:∀φ:Th→Nat,(∀(t:Th) (m:Mrk),φ {t with mr:=m}=φ t)→sumL φ (D.aR (nth t.pt f)).ts=sumL φ D.ts:=fun φ hφ=>dJ _ (fun t=>hφ t _)
 refine⟨(I.san.aR _).move _ _,rfl,by show(f:Int)+1=_;omega,I.ph,I.n,I.hN,fun s hs=> ?_,?_,fun q v hq=> ?_,?_,fun s hs=> ?_,?_⟩
 ·obtain⟨v,hv,e1,e2⟩:=pM I.san (show s∈(D.aR (nth t.pt f)).live from hs)
  rw[e1,e2]
  exact I.ct v hv
 ·refine .inr ?_
  have hfm:=find_mark (D:=D) (r:=nth t.pt f) (fun m=>{m with shade:=D.parity,shadow:=D.shd (nth t.pt f)+1}) ((h:Int)+1)
  rw[hf] at hfm
  simp only[Option.map_some] at hfm
  have hl:=(find_live hfm).1
  by_cases ha:t.at (nth t.pt f)=true
  ·rw[if_pos ha] at hl
   exact⟨_,hl,e,hff⟩
  ·rw[if_neg ha] at hl
   exact⟨_,hl,e,hff⟩
 ·show(D.aR (nth t.pt f)).shd q=((sumL (AZ q h (f+1)) (D.aR (nth t.pt f)).ts:Nat):Int)
  have hq:(D.aR (nth t.pt f)).find q=some v:=hq
  rw[hm _ (fun _ _=>rfl)]
  have hs1:sumL (AZ q h (f+1)) D.ts=sumL (AZ q h f) D.ts+if nth t.pt f=q then 1 else 0:=by
   refine lL (t:=t) I.san.nd htl ?_ (fun u hu hne=>by unfold AZ;rw[hch u hu hne])
   have:=oD q t.pt hff
   have h1:sQ h f t=f:=by unfold sQ;rw[if_neg (by omega),if_pos e]
   unfold AZ
   rw[hct,h1,this]
  rw[hs1]
  have hfm:=find_mark (D:=D) (r:=nth t.pt f) (fun m=>{m with shade:=D.parity,shadow:=D.shd (nth t.pt f)+1}) q
  have hq2:(D.aR (nth t.pt f)).find q=(D.find q).map (fun u=>if u.at (nth t.pt f) then {u with mr:={u.mr with shade:=D.parity,shadow:=D.shd (nth t.pt f)+1}} else u):=hfm
  cases hv:D.find q with
  |none=>
   rw[hv] at hq2
   rw[hq2] at hq
   cases hq
  |some u=>
   rw[hv] at hq2
   simp only[Option.map_some] at hq2
   have hu:=find_live hv
   have h0:=I.sh q u hv
   have hat:(u.at (nth t.pt f)=true)↔nth t.pt f=q:=by
    have:=(dN (t:=u)).1 hu.1
    unfold Th.at
    rw[this.2]
    simp
    rw[hu.2]
    exact eq_comm
   by_cases ha:nth t.pt f=q
   ·rw[if_pos ha]
    rw[if_pos (hat.2 ha)] at hq2
    have:(D.aR (nth t.pt f)).shd q=D.shd (nth t.pt f)+1:=by
     show(match(D.aR (nth t.pt f)).find q with|none=>0|some t=>if t.mr.shade=D.parity then t.mr.shadow else 0)=_
     rw[hq2]
     simp
    rw[this,ha,h0]
    omega
   ·rw[if_neg ha]
    rw[if_neg (fun h=>ha (hat.1 h))] at hq2
    have:(D.aR (nth t.pt f)).shd q=D.shd q:=by
     show(match(D.aR (nth t.pt f)).find q with|none=>0|some t=>if t.mr.shade=D.parity then t.mr.shadow else 0)=(match D.find q with|none=>0|some t=>if t.mr.shade=D.parity then t.mr.shadow else 0)
     rw[hq2,hv]
    rw[this,h0]
    omega
 ·show s+1=h+sumL (sQ h (f+1)) (D.aR (nth t.pt f)).ts
  rw[hm _ (fun _ _=>rfl),lL (φ:=sQ h f) (t:=t) I.san.nd htl hct hch]
  have:=I.st
  omega
 ·obtain⟨v,hv,e1,_⟩:=pM I.san (show s∈(D.aR (nth t.pt f)).live from hs)
  rw[e1]
  exact I.hlt v hv
 ·show N+sumL _ (D.aR (nth t.pt f)).ts≤_
  rw[hm _ (fun _ _=>rfl)]
  exact I.bd
theorem CI.done(I:CI N s h f D)(hk:h<N)(hf:D.find ((h:Int)+1)=some t)(hff:¬f<t.pt.length):CI N (s+1) (h+1) 0 ((D.done ((h:Int)+1)).move ((h:Int)+1) 0):=by
 obtain⟨htl,e⟩:=find_live hf
 have e:t.h=h:=by omega
 have ef:f=t.pt.length:=by
  rcases I.fz with h0|⟨u,hu,e2,h2⟩
  ·omega
  ·rw[I.san.theOne htl hu (by omega)] at h2
   omega
 have hch:∀u,u∈aF D.ts→sQ (h+1) 0 u=sQ h f u:=fun u hu=>by
  unfold sQ
  by_cases h1:u.h<h
  ·rw[if_pos h1,if_pos (by omega)]
  ·rw[if_neg h1]
   by_cases h2:u.h=h
   ·rw[if_pos h2,if_pos (by omega),I.san.theOne htl hu (by omega),ef]
   ·rw[if_neg h2,if_neg (by omega)]
    split<;>rfl
 have hm:∀φ:Th→Nat,(∀(t:Th) (m:Mrk),φ {t with mr:=m}=φ t)→sumL φ (D.done ((h:Int)+1)).ts=sumL φ D.ts:=fun φ hφ=>dJ _ (fun t=>hφ t _)
 refine⟨(I.san.done _).move _ _,by show(h:Int)+1=_;omega,rfl,I.ph,I.n,hk,fun s hs=> ?_,.inl rfl,fun q v hq=> ?_,?_,fun s hs=> ?_,?_⟩
 ·obtain⟨v,hv,e1,h2⟩:=uT I.san (show s∈(D.done ((h:Int)+1)).live from hs)
  have h3:=I.ct v hv
  show s.mr.count=D.parity↔_
  rcases h2 with⟨k,h2⟩|⟨k,h2⟩
  ·rw[h2]
   exact⟨fun _=>by omega,fun _=>rfl⟩
  ·rw[h2,h3]
   omega
 ·show(D.done ((h:Int)+1)).shd q=((sumL (AZ q (h+1) 0) (D.done ((h:Int)+1)).ts:Nat):Int)
  have hq:(D.done ((h:Int)+1)).find q=some v:=hq
  rw[hm _ (fun _ _=>rfl),bY (φ:=AZ q (h+1) 0) (ψ:=AZ q h f) (fun u hu=>by unfold AZ;rw[hch u hu])]
  have hq2:(D.done ((h:Int)+1)).find q=(D.find q).map (fun u=>if u.at ((h:Int)+1) then {u with mr:={u.mr with count:=D.parity}} else u):=find_mark (D:=D) (r:=(h:Int)+1) (fun m=>{m with count:=D.parity}) q
  cases hv:D.find q with
  |none=>
   rw[hv] at hq2
   rw[hq2] at hq
   cases hq
  |some u=>
   rw[hv] at hq2
   simp only[Option.map_some] at hq2
   have:(D.done ((h:Int)+1)).shd q=D.shd q:=by
    show(match(D.done ((h:Int)+1)).find q with|none=>0|some t=>if t.mr.shade=D.parity then t.mr.shadow else 0)=(match D.find q with|none=>0|some t=>if t.mr.shade=D.parity then t.mr.shadow else 0)
    rw[hq2,hv]
    cases u.at ((h:Int)+1)<;>rfl
   rw[this]
   exact I.sh q u hv
 ·show s+1=h+1+sumL (sQ (h+1) 0) (D.done ((h:Int)+1)).ts
  rw[hm _ (fun _ _=>rfl),bY hch]
  have:=I.st
  omega
 ·obtain⟨v,hv,e1,_⟩:=uT I.san (show s∈(D.done ((h:Int)+1)).live from hs)
  rw[e1]
  exact I.hlt v hv
 ·show N+sumL _ (D.done ((h:Int)+1)).ts≤_
  rw[hm _ (fun _ _=>rfl)]
  exact I.bd
theorem CI.tally(I:CI N s h f D)(hk:h<N):∃h' f',CI N (s+1) h' f' D.tally:=by
 have e:D.bf=true:=by
  unfold Wd.bf
  rw[I.ph,I.cu,I.n]
  simp[hk]
 unfold Wd.tally
 rw[e,if_pos rfl,I.cu]
 cases hf:D.find ((h:Int)+1) with
 |none=>
  unfold Wd.tallyAt
  simp only
  rw[I.cu]
  exact⟨_,_,I.skip hk hf⟩
 |some t=>
  obtain⟨htl,e2⟩:=find_live hf
  unfold Wd.tallyAt
  simp only
  rw[if_neg (fun hc=>by have:=(I.ct t htl).1 hc;omega),I.cu,I.fi]
  by_cases hff:f<t.pt.length
  ·rw[if_pos (by omega)]
   exact⟨_,_,I.deep hf hff⟩
  ·rw[if_neg (by omega)]
   exact⟨_,_,I.done hk hf hff⟩
theorem CI.tb(I:CI N s h f D):D.bf=decide (h<N):=by
 unfold Wd.bf
 rw[I.ph,I.cu,I.n]
 simp
theorem CI.le(I:CI N s h f D):s≤16*N:=by
 have h1:sumL (sQ h f) D.ts≤sumL (fun t=>t.pt.length) D.ts:=qX (fun u hu=>by
  unfold sQ
  split
  ·exact Nat.le_refl _
  ·split
   ·rename_i e
    rcases I.fz with h0|⟨t,ht,e2,h2⟩
    ·omega
    ·rw[I.san.theOne ht hu (by omega)]
     exact h2
   ·omega)
 have:=I.st
 have:=I.bd
 have:=I.hN
 omega
theorem CI.end_(I:CI N s h f D)(hk:¬h<N)(hf:D.find q=some t):D.shd q=((sumR (nmT q) D N:Nat):Int)∧D.counted q 0=true:=by
 obtain⟨htl,e⟩:=find_live hf
 have hh:h=N:=by have:=I.hN;omega
 constructor
 ·rw[I.sh q t hf,Lv I.san I.hlt,bY (φ:=AZ q h f) (ψ:=nmT q) (fun u hu=> ?_)]
  have:=I.hlt u hu
  unfold AZ nmT sQ
  rw[if_pos (by omega),List.take_length]
 ·have h1:=(I.ct t htl).2 (by have:=I.hlt t htl;omega)
  unfold Wd.counted
  rw[hf]
  simp[h1]
end
def oW(P C F:Int)(u:Th):Nat:=if u.mr.count=P then u.pt.length else if(u.h:Int)=C then F.toNat else 0
def jf(P C F q:Int)(u:Th):Nat:=bF q (u.pt.take (oW P C F u))
def Wd.ph(D:Wd)(q:Int):Th→Nat:=jf D.parity D.cursor D.field q
def sv(P:Int)(m:Mrk):Int:=if m.shade=P then m.shadow else 0
structure eX (E:Int→Prop) (D:Wd):Prop where
 sh:∀s,s∈D.live→¬E ((s.h:Int)+1)→s.mr.dead=false→s.mr.color≠D.parity→sv D.parity s.mr=((sumL (D.ph ((s.h:Int)+1)) D.ts:Nat):Int)
 ct:∀s,s∈D.live→(s.h:Int)<D.cursor→s.mr.count=D.parity
def lT(D D':Wd):Prop:=D'.parity=D.parity∧D'.cursor=D.cursor∧D'.field=D.field∧D'.phase=D.phase
theorem lT.refl(D:Wd):lT D D:=⟨rfl,rfl,rfl,rfl⟩
theorem lT.trans{D D' D2:Wd}(h:lT D D')(k:lT D' D2):lT D D2:=⟨k.1.trans h.1,k.2.1.trans h.2.1,k.2.2.1.trans h.2.2.1,k.2.2.2.trans h.2.2.2⟩
theorem ma(q x:Int):∀(l:List Int) (i m:Nat),i<l.length→bF q ((l.set i x).take m)+(if i<m∧nth l i=q then 1 else 0)=bF q (l.take m)+(if i<m∧x=q then 1 else 0)
 |[],i,m,h=>by simp at h
 |a::l,0,0,_=>by simp
 |a::l,0,m+1,_=>by
  have e:nth (a::l) 0=a:=rfl
  rw[e]
  simp only[List.set_cons_zero,List.take_succ_cons,bF,Nat.zero_lt_succ,true_and]
  omega
 |a::l,i+1,0,_=>by simp
 |a::l,i+1,m+1,h=>by
  have:=ma q x l i m (by simpa using h)
  have e:nth (a::l) (i+1)=nth l i:=rfl
  rw[e]
  simp only[List.set_cons_succ,List.take_succ_cons,bF,Nat.add_lt_add_iff_right]
  omega
section
variable {D D':Wd} {E E':Int→Prop} {t s u:Th} {r x y q:Int} {g:Th→Th} {P C F:Int}
theorem Np{i:Nat}(hi:i<t.pt.length)(h:q≠x∧q≠nth t.pt i):jf P C F q {t with pt:=t.pt.set i x}=jf P C F q t:=by
 have e:oW P C F {t with pt:=t.pt.set i x}=oW P C F t:=by unfold oW;simp
 have:=ma q x t.pt i (oW P C F t) hi
 rw[if_neg (fun hh=>h.2 hh.2.symm),if_neg (fun hh=>h.1 hh.2.symm)] at this
 unfold jf
 rw[e]
 exact this
theorem pW{m:Mrk}(h:m.count=t.mr.count):jf P C F q {t with mr:=m}=jf P C F q t:=by
 unfold jf oW
 rw[show({t with mr:=m}:Th).mr.count=t.mr.count from h]
theorem Pv{v:Th}(h:v.mr.count=t.mr.count)(h2:v.h=t.h)(h3:v.pt=t.pt):jf P C F q v=jf P C F q t:=by
 unfold jf oW
 rw[h,h2,h3]
theorem EU(h:lT D D'):D'.ph q=D.ph q:=by unfold Wd.ph;rw[h.1,h.2.1,h.2.2.1]
theorem eX.mono(H:eX E D)(h:∀q,E q→E' q):eX E' D:=⟨fun s hs he=>H.sh s hs (fun e=>he (h _ e)),H.ct⟩
theorem eX.same(H:eX E D)(h:D'.ts=D.ts)(k:lT D D'):eX E D':=by
 have hl:D'.live=D.live:=by unfold Wd.live;rw[h]
 refine⟨fun s hs he hd hc=> ?_,fun s hs hc=> ?_⟩
 ·rw[hl] at hs
  rw[k.1] at hc ⊢
  rw[EU k,h]
  exact H.sh s hs he hd hc
 ·rw[hl] at hs
  rw[k.2.1] at hc
  rw[k.1]
  exact H.ct s hs hc
theorem eX.upd(H:eX E D)(S:San D)(hf:D.find r=some t)(hts:D'.ts=updL r g D.ts)(k:lT D D')(he:(g t).ended=false)(hh:(g t).h=t.h)
  (hp:∀q,q≠0→¬E' q→D.ph q (g t)=D.ph q t) (hc:t.mr.count=D.parity→(g t).mr.count=D.parity)
  (hs:¬E' ((t.h:Int)+1)→(g t).mr.dead=false→(g t).mr.color≠D.parity→¬E ((t.h:Int)+1)∧t.mr.dead=false∧t.mr.color≠D.parity∧sv D.parity (g t).mr=sv D.parity t.mr)
  (hE:∀q,E q→E' q):eX E' D':=by
 have htl:=(find_live hf).1
 have hm:∀s,s∈D'.live→s=g t∨(s∈D.live∧s.h≠t.h):=fun s h=>by
  unfold Wd.live at h
  rw[hts] at h
  exact aN S.nd hf h
 have hsum:∀q,q≠0→¬E' q→sumL (D'.ph q) D'.ts=sumL (D.ph q) D.ts:=fun q h0 h1=>by
  rw[EU k,hts]
  have h2:=gp (φ:=D.ph q) hf he
  rw[hp q h0 h1] at h2
  omega
 refine⟨fun s h h1 h2 h3=> ?_,fun s h h1=> ?_⟩
 ·rw[hsum _ (by omega) h1]
  rw[k.1] at h3 ⊢
  rcases hm s h with rfl|⟨h4,_⟩
  ·rw[hh] at h1 ⊢
   obtain⟨k1,k2,k3,k4⟩:=hs h1 h2 h3
   rw[k4]
   exact H.sh t htl k1 k2 k3
  ·exact H.sh s h4 (fun e=>h1 (hE _ e)) h2 h3
 ·rw[k.2.1] at h1
  rw[k.1]
  rcases hm s h with rfl|⟨h4,_⟩
  ·rw[hh] at h1
   exact hc (H.ct t htl h1)
  ·exact H.ct s h4 h1
theorem eX.mark(H:eX E D)(S:San D)(r:Int){f:Mrk→Mrk}(hc:∀m,(f m).count=m.count)(hs:∀m,(f m).dead=false→(f m).color≠D.parity→m.dead=false∧m.color≠D.parity∧sv D.parity (f m)=sv D.parity m):eX E (D.mark r f):=by
 cases hf:D.find r with
 |none=>rw[bA f hf];exact H
 |some t=>
  refine H.upd (E':=E) (g:=fun t=>{t with mr:=f t.mr}) S hf rfl ⟨rfl,rfl,rfl,rfl⟩ (find_at hf).2.1 rfl (fun q _ _=>pW (hc _)) (fun h=>(hc _).trans h) (fun h1 h2 h3=> ?_) (fun _ h=>h)
  obtain⟨k1,k2,k3⟩:=hs t.mr h2 h3
  exact⟨h1,k1,k2,k3⟩
theorem eP(r:Int):lT D (D.touch r):=by
 unfold Wd.touch
 split<;>exact⟨rfl,rfl,rfl,rfl⟩
theorem eX.paint(H:eX E D)(S:San D)(r:Int):eX E (D.paint r):=H.mark S r (f:=fun m=>{m with color:=D.parity}) (fun _=>rfl) (fun m _ h=>absurd rfl h)
theorem eX.touch(H:eX E D)(S:San D)(r:Int):eX E (D.touch r):=by
 unfold Wd.touch
 split
 ·exact(H.paint S r).same rfl ⟨rfl,rfl,rfl,rfl⟩
 ·exact H
theorem eX.Qf(H:eX (fun q=>E q∨q=r) D)(S:San D)(hp:D.phase≠0):eX E (D.touch r):=by
 cases ht:D.toucht r with
 |true=>
  have H2:eX E (D.paint r):=by
   cases hf:D.find r with
   |none=>unfold Wd.toucht at ht;rw[hf] at ht;cases ht
   |some t=>
    obtain⟨htl,e⟩:=find_live hf
    have hm:∀s,s∈(D.paint r).live→s={t with mr:={t.mr with color:=D.parity}}∨(s∈D.live∧s.h≠t.h):=fun s h=>aN (g:=fun t=>{t with mr:={t.mr with color:=D.parity}}) S.nd hf h
    have hsum:∀q,sumL ((D.paint r).ph q) (D.paint r).ts=sumL (D.ph q) D.ts:=fun q=>dJ (φ:=D.ph q) r (fun t=>pW rfl)
    refine⟨fun s h h1 h2 h3=> ?_,fun s h h1=> ?_⟩
    ·rcases hm s h with rfl|⟨h4,h5⟩
     ·exact absurd rfl h3
     ·rw[hsum]
      exact H.sh s h4 (fun h6=>by rcases h6 with h6|h6;exact h1 h6;omega) h2 h3
    ·rcases hm s h with rfl|⟨h4,_⟩
     ·exact H.ct t htl h1
     ·exact H.ct s h4 h1
  unfold Wd.touch
  rw[ht,if_pos rfl]
  exact H2.same rfl ⟨rfl,rfl,rfl,rfl⟩
 |false=>
  have e:D.touch r=D:=by unfold Wd.touch;rw[ht];rfl
  rw[e]
  refine⟨fun s h h1 h2 h3=> ?_,H.ct⟩
  by_cases h5:(s.h:Int)+1=r
  ·exfalso
   have:=S.findIt h
   rw[h5] at this
   unfold Wd.toucht at ht
   rw[this] at ht
   simp only[h2,Bool.not_false,Bool.and_true] at ht
   simp[hp,h3] at ht
  ·exact H.sh s h (fun h6=>by rcases h6 with h6|h6;exact h1 h6;exact h5 h6) h2 h3
theorem eX.bury(H:eX E D)(S:San D)(x:Int):eX E (D.bury x):=by
 unfold Wd.bury
 cases hf:D.find x with
 |none=>exact H
 |some t=>
  simp only
  split
  ·exact H
  ·exact H.upd (E':=E) (g:=fun s=>{s with mr:={s.mr with dead:=true,left:=(t.pt.length:Int),leaves:=(t.lv.length:Int)}}) S hf (lay_ts x t) ⟨rfl,rfl,rfl,rfl⟩ (find_at hf).2.1 rfl (fun q _ _=>pW rfl) (fun h=>h) (fun _ h2 _=>by cases h2) (fun _ h=>h)
theorem JH(x:Int):lT D (D.bury x):=by
 unfold Wd.bury
 split
 ·exact lT.refl D
 ·split
  ·exact lT.refl D
  ·exact⟨rfl,rfl,rfl,rfl⟩
theorem eX.inter(H:eX E D)(S:San D)(x:Int):eX E (D.inter x):=by
 unfold Wd.inter
 split
 ·exact H.bury S x
 ·exact H
theorem yH(x:Int):lT D (D.inter x):=by
 unfold Wd.inter
 split
 ·exact JH x
 ·exact lT.refl D
theorem eX.less(H:eX E D)(S:San D)(r:Int):eX E (D.less r):=
 eX.inter (D:=(D.down r).sus) ((H.mark S r (f:=fun m=>{m with refs:=m.refs-1}) (fun _=>rfl) (fun m h1 h2=>⟨h1,h2,rfl⟩)).same rfl ⟨rfl,rfl,rfl,rfl⟩) (S.down r).sus r
theorem iD(r:Int):lT D (D.less r):=lT.trans (D':=(D.down r).sus) ⟨rfl,rfl,rfl,rfl⟩ (yH r)
theorem eX.up(H:eX E D)(S:San D)(r:Int):eX E (D.up r):=H.mark S r (f:=fun m=>{m with refs:=m.refs+1}) (fun _=>rfl) (fun m h1 h2=>⟨h1,h2,rfl⟩)
theorem eX.more(H:eX E D)(S:San D)(r:Int):eX E (D.more r):=(H.up S r).touch (S.up r) r
theorem eF(r:Int):lT D (D.more r):=lT.trans (D':=D.up r) ⟨rfl,rfl,rfl,rfl⟩ (eP r)
theorem eX.setP(H:eX E D)(S:San D)(hf:D.find r=some t){i:Nat}(hi:i<t.pt.length)(x:Int)(hE:∀q,E q→E' q)(hX:∀q,q≠0→q=x∨q=nth t.pt i→E' q):eX E' (D.setP r i x):=
 H.upd (E':=E') (g:=fun t=>{t with pt:=t.pt.set i x}) S hf rfl ⟨rfl,rfl,rfl,rfl⟩ (find_at hf).2.1 rfl (fun q h0 h1=>Np hi ⟨fun e=>h1 (hX q h0 (.inl e)),fun e=>h1 (hX q h0 (.inr e))⟩) (fun h=>h) (fun h1 h2 h3=>⟨fun e=>h1 (hE _ e),h2,h3,rfl⟩) hE
theorem eX.strong(H:eX (fun q=>E q∨q=x) D)(h:∀s,s∈D.live→(s.h:Int)+1=x→¬E x→s.mr.dead=false→s.mr.color≠D.parity→sv D.parity s.mr=((sumL (D.ph x) D.ts:Nat):Int)):eX E D:=by
 refine⟨fun s hs h1 h2 h3=> ?_,H.ct⟩
 by_cases e:(s.h:Int)+1=x
 ·rw[e] at h1 ⊢
  exact h s hs e h1 h2 h3
 ·exact H.sh s hs (fun h6=>by rcases h6 with h6|h6;exact h1 h6;exact e h6) h2 h3
theorem sS(q:Int):∀(l:List Int) (m:Nat),bF q (l.take m)≤bF q l
 |[],m=>by simp
 |a::l,0=>by simp[bF]
 |a::l,m+1=>by
  have:=sS q l m
  simp only[List.take_succ_cons,bF]
  omega
theorem qK(hq:q≠0)(h:∀i,nth t.pt i=0):jf P C F q t=0:=by
 have h1:=sS q t.pt (oW P C F t)
 have h2:bF q t.pt=0:=cntL_none (fun i _=>by rw[h i];exact fun e=>hq e.symm)
 unfold jf
 omega
variable {hold:Nat→Nat}
theorem eX.drain(H:eX E D)(S:San D)(N:Nam hold D)(hp:D.phase=1∨D.phase=2∧∀u,u∈D.live→u.mr.count=D.parity)(hF:0≤D.field)(hf:D.find r=some t)(hd:t.mr.dead=true){i:Nat}(hi:i<t.pt.length):eX E (D.drain r i (nth t.pt i)):=by
 have S1:=S.setP hf i (x:=0) (fun _=>rfl)
 have H1:eX (fun q=>E q∨q=nth t.pt i) (D.setP r i 0):=H.setP S hf hi 0 (fun q h=>.inl h) (fun q h0 h=>h.elim (fun h=>absurd h h0) .inr)
 have N1:=N.clear S hf hi
 obtain⟨htl,hr⟩:=find_live hf
 have hsum:nth t.pt i≠0→sumL (D.ph (nth t.pt i)) (D.setP r i 0).ts+(if i<oW D.parity D.cursor D.field t then 1 else 0)=sumL (D.ph (nth t.pt i)) D.ts:=fun h0=>by
  have h1:=oO (φ:=D.ph (nth t.pt i)) hf i 0
  have h2:=ma (nth t.pt i) 0 t.pt i (oW D.parity D.cursor D.field t) hi
  rw[if_neg (show ¬(i<oW D.parity D.cursor D.field t∧(0:Int)=nth t.pt i) from fun h=>h0 h.2.symm)] at h2
  have e1:D.ph (nth t.pt i) {t with pt:=t.pt.set i 0}=bF (nth t.pt i) ((t.pt.set i 0).take (oW D.parity D.cursor D.field t)):=by
   unfold Wd.ph jf
   rw[show oW D.parity D.cursor D.field {t with pt:=t.pt.set i 0}=oW D.parity D.cursor D.field t by unfold oW;simp]
  have e2:D.ph (nth t.pt i) t=bF (nth t.pt i) (t.pt.take (oW D.parity D.cursor D.field t)):=rfl
  simp only[and_true] at h2
  omega
 have hX:∀u,u∈(D.setP r i 0).live→(u.h:Int)+1=nth t.pt i→¬E (nth t.pt i)→u.mr.dead=false→u.mr.color≠D.parity→sv D.parity u.mr=((sumL (D.ph (nth t.pt i)) (D.setP r i 0).ts+(if i<oW D.parity D.cursor D.field t then 1 else 0):Nat):Int):=fun u hu e h1 h2 h3=>by
  rcases aN (g:=fun t=>{t with pt:=t.pt.set i 0}) S.nd hf hu with rfl|⟨h4,_⟩
  ·have h2:t.mr.dead=false:=h2
   rw[hd] at h2
   cases h2
  ·rw[hsum (by omega)]
   have:=H.sh u h4 (by rw[e];exact h1) h2 h3
   rw[e] at this
   exact this
 have hcnt:(D.setP r i 0).counted r i=decide (i<oW D.parity D.cursor D.field t):=by
  have hf1:(D.setP r i 0).find r=some {t with pt:=t.pt.set i 0}:=by rw[oN,hf];simp[find_at_r hf]
  unfold Wd.counted
  rw[hf1]
  show(decide ((0:Int)≤(i:Int))&&(decide (t.mr.count=D.parity)||(decide (D.phase=1)&&decide (D.cursor=r-1)&&decide ((i:Int)<D.field))))=_
  rw[decide_eq_true (show(0:Int)≤(i:Int) by omega)]
  unfold oW
  by_cases hc:t.mr.count=D.parity
  ·rw[if_pos hc,decide_eq_true hc,decide_eq_true hi]
   rfl
  ·rw[if_neg hc,decide_eq_false hc,show D.phase=1 from hp.elim id (fun h=>absurd (h.2 t htl) hc)]
   by_cases h2:(t.h:Int)=D.cursor
   ·rw[if_pos h2,decide_eq_true (show D.cursor=r-1 by omega)]
    simp
   ·rw[if_neg h2,decide_eq_false (show ¬D.cursor=r-1 by omega)]
    simp
 generalize nth t.pt i=x at*
 generalize oW D.parity D.cursor D.field t=m at*
 unfold Wd.drain
 by_cases hc:(D.setP r i 0).cnt x=0
 ·rw[if_pos hc]
  refine H1.strong (fun s hs e _ _ _=> ?_)
  have h1:=N1.cnt s hs
  rw[if_pos e] at h1
  have h2:=S1.findIt hs
  rw[e] at h2
  unfold Wd.cnt at hc
  rw[h2] at hc
  simp only at hc
  omega
 ·rw[if_neg hc]
  have key:∀D2:Wd,San D2→eX E D2→eX E ((D2.down x).inter x):=fun D2 S2 H2=>(H2.mark S2 x (f:=fun m=>{m with refs:=m.refs-1}) (fun _=>rfl) (fun m h1 h2=>⟨h1,h2,rfl⟩)).inter (S2.down x) x
  have K:San (if(D.setP r i 0).counted r i then(D.setP r i 0).lighten x else D.setP r i 0)∧eX E (if(D.setP r i 0).counted r i then(D.setP r i 0).lighten x else D.setP r i 0):=by
   rw[hcnt]
   have hsv:∀u,u∈(D.setP r i 0).live→(u.h:Int)+1=x→(D.setP r i 0).shd x=sv D.parity u.mr:=fun u hu e=>by
    have:=S1.findIt hu
    rw[e] at this
    unfold Wd.shd
    rw[this]
    rfl
   by_cases him:i<m
   ·rw[decide_eq_true him,if_pos rfl]
    refine⟨S1.lighten x,?_⟩
    rw[if_pos him] at hX
    unfold Wd.lighten
    cases hl:(D.setP r i 0).lighter x with
    |true=>
     rw[if_pos rfl]
     have hsm:sumL (((D.setP r i 0).mark x (fun m=>{m with shadow:=m.shadow-1})).ph x) ((D.setP r i 0).mark x (fun m=>{m with shadow:=m.shadow-1})).ts=sumL (D.ph x) (D.setP r i 0).ts:=dJ (φ:=D.ph x) x (fun t=>pW rfl)
     cases hfx:(D.setP r i 0).find x with
     |none=>
      rw[bA _ hfx]
      refine H1.strong (fun s hs e _ _ _=> ?_)
      have:=S1.findIt hs
      rw[e,hfx] at this
      cases this
     |some u=>
      have H2:eX (fun q=>E q∨q=x) ((D.setP r i 0).mark x (fun m=>{m with shadow:=m.shadow-1})):=H1.upd (E':=fun q=>E q∨q=x) (g:=fun t=>{t with mr:={t.mr with shadow:=t.mr.shadow-1}}) S1 hfx rfl ⟨rfl,rfl,rfl,rfl⟩ (find_at hfx).2.1 rfl (fun q _ _=>pW rfl) (fun h=>h) (fun h1 _ _=>absurd (.inr (find_live hfx).2) h1) (fun _ h=>h)
      refine H2.strong (fun s hs e h1 h2 h3=> ?_)
      rw[hsm]
      obtain⟨v,hv,e1,_,hm⟩:=bC S1 hs
      rcases hm with⟨k1,k2⟩|⟨k1,_⟩
      ·have h4:=hX v hv k1 h1 (by rw[k2] at h2;exact h2) (by rw[k2] at h3;exact h3)
       have h5:=hsv v hv k1
       have h6:(D.setP r i 0).shd x≠0:=by
        unfold Wd.lighter at hl
        simp at hl
        exact hl.2
       rw[k2]
       show sv D.parity {v.mr with shadow:=v.mr.shadow-1}=_
       rw[h5] at h6
       unfold sv at h4 h6 ⊢
       show(if v.mr.shade=D.parity then v.mr.shadow-1 else 0)=_
       by_cases h7:v.mr.shade=D.parity
       ·rw[if_pos h7] at h4 h6 ⊢
        omega
       ·rw[if_neg h7] at h6
        exact absurd rfl h6
      ·exact absurd (by omega) k1
    |false=>
     rw[if_neg (by decide)]
     refine H1.strong (fun s hs e h1 h2 h3=> ?_)
     exfalso
     have h4:=hX s hs e h1 h2 h3
     have h5:=hsv s hs e
     have h6:(D.setP r i 0).fG x=false:=by
      have:=S1.findIt hs
      rw[e] at this
      unfold Wd.fG
      rw[this]
      exact decide_eq_false h3
     unfold Wd.lighter at hl
     rw[h6,h5,h4,show(D.setP r i 0).phase=D.phase from rfl] at hl
     rcases hp with hp|⟨hp,_⟩<;>(rw[hp] at hl;simp at hl;omega)
   ·rw[decide_eq_false him,if_neg (by decide)]
    rw[if_neg him] at hX
    exact⟨S1,H1.strong (fun s hs e h1 h2 h3=>hX s hs e h1 h2 h3)⟩
  exact key _ K.1 K.2
theorem Ch(x:Int):lT D (D.lighten x):=by
 unfold Wd.lighten
 split<;>exact⟨rfl,rfl,rfl,rfl⟩
theorem Ho(r:Int)(i:Nat)(x:Int):lT D (D.drain r i x):=by
 have key:∀D2:Wd,lT D D2→lT D ((D2.down x).inter x):=fun D2 h=>(h.trans (D2:=D2.down x) ⟨rfl,rfl,rfl,rfl⟩).trans (yH x)
 unfold Wd.drain
 by_cases hc:(D.setP r i 0).cnt x=0
 ·rw[if_pos hc]
  exact⟨rfl,rfl,rfl,rfl⟩
 ·rw[if_neg hc]
  refine key _ ?_
  split
  ·exact lT.trans (D':=D.setP r i 0) ⟨rfl,rfl,rfl,rfl⟩ (Ch x)
  ·exact⟨rfl,rfl,rfl,rfl⟩
theorem jl:lT D D.step:=by
 unfold Wd.step
 split
 ·exact lT.refl D
 ·split
  ·exact lT.refl D
  ·unfold Wd.work
   split
   ·exact(Ho _ _ _).trans ⟨rfl,rfl,rfl,rfl⟩
   ·split<;>exact⟨rfl,rfl,rfl,rfl⟩
theorem eX.step(H:eX E D)(S:San D)(N:Nam hold D)(hp:D.phase=1∨D.phase=2∧∀u,u∈D.live→u.mr.count=D.parity)(hF:0≤D.field):eX E D.step:=by
 cases hg:D.grave with
 |nil=>rw[show D.step=D by unfold Wd.step;rw[hg]];exact H
 |cons q rest=>
  obtain⟨t,htl,e,hf,hd,d,es⟩:=S.head hg
  rw[es]
  unfold Wd.work
  have hw:=S.w
  by_cases ha:D.ahead t.mr.leaves<t.mr.left
  ·have h0:0≤D.ahead t.mr.leaves:=by
    unfold Wd.ahead
    refine Int.mul_nonneg ?_ (by omega)
    split<;>omega
   rw[if_pos ha]
   have hi:(t.mr.left-1).toNat<t.pt.length:=by have:=d.f1;omega
   exact(H.drain S N hp hF hf hd hi).mark (S.drain hf _ _) _ (fun _=>rfl) (fun m h1 h2=>⟨h1,h2,rfl⟩)
  ·rw[if_neg ha]
   by_cases hl:0<t.mr.leaves
   ·rw[if_pos hl]
    exact H.upd (E':=E) (g:=fun s=>{s with lv:=s.lv.set (t.mr.leaves-1).toNat (-1),mr:={s.mr with leaves:=t.mr.leaves-1}}) S hf (cut_mark _ _ _ _) ⟨rfl,rfl,rfl,rfl⟩ (find_at hf).2.1 rfl (fun q _ _=>Pv rfl rfl rfl) (fun h=>h) (fun h1 h2 h3=>⟨h1,h2,h3,rfl⟩) (fun _ h=>h)
   ·rw[if_neg hl]
    have hlive:({({D with grave:=rest}:Wd).endAt (q:Int) t.h with pending:=D.pending-1}:Wd).live=D.live.filter (fun s=>s.h !=t.h):=live_upd_end (g:=fun s=>{s with ended:=true}) (fun _=>rfl) S.nd hf
    have h0:0≤D.ahead t.mr.leaves:=by
     unfold Wd.ahead
     refine Int.mul_nonneg ?_ (by omega)
     split<;>omega
    have hl0:t.mr.leaves=0:=by have:=d.l0;omega
    have hlf:t.mr.left≤0:=by
     rw[hl0] at ha
     unfold Wd.ahead at ha
     rw[if_neg (by omega)] at ha
     omega
    have hz:∀i,nth t.pt i=0:=fun i=>d.zero i (by omega)
    have hsum:∀y:Int,y≠0→sumL (D.ph y) (updL (q:Int) (fun s=>{s with ended:=true}) D.ts)=sumL (D.ph y) D.ts:=fun y hy=>by
     have h1:=qW (φ:=D.ph y) (g:=fun s=>{s with ended:=true}) hf rfl
     have h2:D.ph y t=0:=qK hy hz
     omega
    refine⟨fun s hs h1 h2 h3=> ?_,fun s hs h1=> ?_⟩
    ·rw[hlive] at hs
     show sv D.parity s.mr=((sumL (D.ph ((s.h:Int)+1)) (updL (q:Int) (fun s=>{s with ended:=true}) D.ts):Nat):Int)
     rw[hsum _ (by omega)]
     exact H.sh s (List.mem_filter.1 hs).1 h1 h2 h3
    ·rw[hlive] at hs
     exact H.ct s (List.mem_filter.1 hs).1 h1
theorem eX.born{N:Nat}(H:eX E D)(S:San D)(B:BornOk D x y N):eX E (D.born x y):=by
 unfold Wd.born
 by_cases hE:D.mkE x y=0
 ·rw[if_pos hE]
  obtain⟨t,hf,et,em⟩:=B.new hE
  have hfr:=B.fresh hE
  have S1:=B.san S
  have eR:D.mkR x y=(D.mkB:Int)+1:=by unfold Wd.mkR;rw[if_pos hE]
  have eD:D.mkD x y=D.made D.mkB (D.clean.tail.take (D.mkN x y)) (D.clean.tail.drop (D.mkN x y)) x.toNat y.toNat:=by unfold Wd.mkD;rw[if_pos hE]
  have hlv:(D.mkD x y).live=D.live++[⟨D.mkB,ints (D.clean.tail.take (D.mkN x y)),zer x.toNat,zer y.toNat,false,Mrk.new⟩]:=by rw[eD,live_made]
  have hsm0:lT D (D.mkD x y):=by rw[eD];exact⟨rfl,rfl,rfl,rfl⟩
  have hts:(D.mkD x y).ts=D.ts++[⟨D.mkB,ints (D.clean.tail.take (D.mkN x y)),zer x.toNat,zer y.toNat,false,Mrk.new⟩]:=by rw[eD];rfl
  have htz:∀i,nth t.pt i=0:=by
   have:=(find_live hf).1
   rw[hlv] at this
   rcases List.mem_append.1 this with h|h
   ·exact absurd et (hfr t h)
   ·obtain rfl:=List.mem_singleton.1 h
    exact fun i=>qG _ i
  have hsum:∀q,q≠0→sumL (D.ph q) ((D.mkD x y).dye (D.mkR x y)).ts=sumL (D.ph q) D.ts:=fun q hq=>by
   have h1:=gp (φ:=D.ph q) (g:=fun t=>{t with mr:={t.mr with color:=(D.mkD x y).parity,count:=(D.mkD x y).parity,shade:=(D.mkD x y).parity,shadow:=0}}) hf (find_at hf).2.1
   have h2:D.ph q t=0:=qK hq htz
   have h3:D.ph q {t with mr:={t.mr with color:=(D.mkD x y).parity,count:=(D.mkD x y).parity,shade:=(D.mkD x y).parity,shadow:=0}}=0:=qK hq htz
   have h4:sumL (D.ph q) (D.mkD x y).ts=sumL (D.ph q) D.ts:=by
    rw[hts,kP]
    have h5:D.ph q ⟨D.mkB,ints (D.clean.tail.take (D.mkN x y)),zer x.toNat,zer y.toNat,false,Mrk.new⟩=0:=qK hq (fun i=>qG _ i)
    rw[aO]
    simp only[h5]
    simp[sumL,aF]
   have h6:((D.mkD x y).dye (D.mkR x y)).ts=updL (D.mkR x y) (fun t=>{t with mr:={t.mr with color:=(D.mkD x y).parity,count:=(D.mkD x y).parity,shade:=(D.mkD x y).parity,shadow:=0}}) (D.mkD x y).ts:=rfl
   rw[h6]
   omega
  have hsm:lT D ((D.mkD x y).dye (D.mkR x y)):=hsm0.trans ⟨rfl,rfl,rfl,rfl⟩
  have hm:∀s,s∈((D.mkD x y).dye (D.mkR x y)).live→(s.mr.color=D.parity∧s.mr.count=D.parity)∨∃v,v∈D.live∧s.h=v.h∧s.mr=v.mr:=fun s hs=>by
   obtain⟨v,hv,e1,_,h⟩:=bC S1 hs
   rcases h with⟨k1,k2⟩|⟨k1,k2⟩
   ·rw[k2]
    exact .inl ⟨hsm0.1,hsm0.1⟩
   ·rw[hlv] at hv
    rcases List.mem_append.1 hv with h|h
    ·exact .inr ⟨v,h,e1,k2⟩
    ·obtain rfl:=List.mem_singleton.1 h
     exact absurd eR.symm k1
  have H1:eX E ((D.mkD x y).dye (D.mkR x y)):=by
   refine⟨fun s hs h1 h2 h3=> ?_,fun s hs h1=> ?_⟩
   ·rw[EU hsm,hsum _ (by omega)]
    rw[hsm.1] at h3 ⊢
    rcases hm s hs with⟨k1,_⟩|⟨v,hv,e1,e2⟩
    ·exact absurd k1 h3
    ·rw[e2] at h2 h3 ⊢
     rw[e1] at h1 ⊢
     exact H.sh v hv h1 h2 h3
   ·rw[hsm.1]
    rw[hsm.2.1] at h1
    rcases hm s hs with⟨_,k1⟩|⟨v,hv,e1,e2⟩
    ·exact k1
    ·rw[e2]
     exact H.ct v hv (by rw[←e1];exact h1)
  exact H1.more (S1.mark _ (fun _=>rfl) (fun _=>rfl) (fun _=>rfl)) _
 ·rw[if_neg hE]
  exact H
theorem jd:lT D (D.born x y):=by
 unfold Wd.born
 split
 ·refine lT.trans (D':=(D.mkD x y).dye (D.mkR x y)) (lT.trans (D':=D.mkD x y) ?_ ⟨rfl,rfl,rfl,rfl⟩) (eF _)
  unfold Wd.mkD
  split<;>exact⟨rfl,rfl,rfl,rfl⟩
 ·exact lT.refl D
def Ri(D D':Wd):Prop:=∀s,s∈D'.live→∃v,v∈D.live∧s.h=v.h∧v.mr.refs≤s.mr.refs
theorem Ri.more(S:San D)(x:Int):Ri D (D.more x):=fun s hs=>by
 have h1:∃v,v∈(D.up x).live∧s.h=v.h∧v.mr.refs=s.mr.refs:=by
  rcases touch_ts (D:=D.up x) x with h|h
  ·refine⟨s,?_,rfl,rfl⟩
   unfold Wd.live
   rw[←h]
   exact hs
  ·have hs2:s∈((D.up x).paint x).live:=by
    unfold Wd.live
    rw[←h]
    exact hs
   obtain⟨v,hv,e1,_,h2⟩:=bC (S.up x) hs2
   refine⟨v,hv,e1,?_⟩
   rcases h2 with⟨_,h2⟩|⟨_,h2⟩<;>rw[h2]
 obtain⟨v,hv,e1,e2⟩:=h1
 obtain⟨u,hu,e3,_,h2⟩:=bC S hv
 refine⟨u,hu,e1.trans e3,?_⟩
 rw[←e2]
 rcases h2 with⟨_,h2⟩|⟨_,h2⟩<;>rw[h2]
 ·show u.mr.refs≤u.mr.refs+1
  omega
 ·exact Int.le_refl _
theorem touched(S:San D)(hp:D.phase≠0):∀s,s∈(D.touch x).live→(s.h:Int)+1=x→s.mr.dead=false→s.mr.color=D.parity:=fun s hs e hd=>by
 unfold Wd.touch at hs
 cases ht:D.toucht x with
 |true=>
  rw[ht,if_pos rfl] at hs
  have hs2:s∈(D.paint x).live:=hs
  obtain⟨v,hv,e1,_,h⟩:=bC S hs2
  rcases h with⟨_,h⟩|⟨k,_⟩
  ·rw[h]
  ·exact absurd (by omega) k
 |false=>
  rw[ht,if_neg (by decide)] at hs
  have:=S.findIt hs
  rw[e] at this
  unfold Wd.toucht at ht
  rw[this] at ht
  simp only[hd,Bool.not_false,Bool.and_true] at ht
  simp[hp] at ht
  exact ht
theorem eX.put(H:eX E D)(S:San D)(N:Nam hold D)(hp:D.phase≠0)(hf:D.find r=some t)(hd:t.mr.dead=false){i:Nat}(hi:i<t.pt.length):eX E (D.put r i x (nth t.pt i)):=by
 have htl:=(find_live hf).1
 have h1:San (D.putS r i x)∧eX (fun q=>E q∨q=nth t.pt i) (D.putS r i x)∧lT D (D.putS r i x)∧Ri D (D.putS r i x):=by
  unfold Wd.putS
  by_cases hx0:x=0
  ·rw[if_pos hx0]
   refine⟨S.setP hf i (fun h=>by rw[hd] at h;cases h),H.setP S hf hi x (fun q h=>.inl h) (fun q h0 h=>h.elim (fun h=>absurd (h.trans hx0) h0) .inr),⟨rfl,rfl,rfl,rfl⟩,fun s hs=> ?_⟩
   rcases aN (g:=fun t=>{t with pt:=t.pt.set i x}) S.nd hf hs with rfl|⟨h,_⟩
   ·exact⟨t,htl,rfl,Int.le_refl _⟩
   ·exact⟨s,h,rfl,Int.le_refl _⟩
  ·rw[if_neg hx0]
   obtain⟨m,hf1,hm1⟩:=more_find r hf x
   have S1:=S.more x
   have hcol:∀s,s∈(D.more x).live→(s.h:Int)+1=x→s.mr.dead=false→s.mr.color=D.parity:=touched (S.up x) hp
   have H2:eX (fun q=>(E q∨q=nth t.pt i)∨q=x) ((D.more x).setP r i x):=(H.more S x).setP S1 hf1 hi x (fun q h=>.inl (.inl h)) (fun q h0 h=>h.elim .inr (fun h=>.inl (.inr h)))
   have hb:∀s,s∈((D.more x).setP r i x).live→∃v,v∈(D.more x).live∧s.h=v.h∧s.mr=v.mr:=fun s hs=>by
    rcases aN (g:=fun t=>{t with pt:=t.pt.set i x}) S1.nd hf1 hs with rfl|⟨h,_⟩
    ·exact⟨_,(find_live hf1).1,rfl,rfl⟩
    ·exact⟨s,h,rfl,rfl⟩
   refine⟨S1.setP hf1 i (fun h=>by have h:m.dead=true:=h;rw[hm1,hd] at h;cases h),H2.strong (fun s hs e h1 h2 h3=> ?_),(eF x).trans ⟨rfl,rfl,rfl,rfl⟩,fun s hs=> ?_⟩
   ·exfalso
    obtain⟨v,hv,e1,e2⟩:=hb s hs
    have h4:=hcol v hv (by omega) (by rw[←e2];exact h2)
    exact h3 (by rw[e2,h4];exact(eF x).1.symm)
   ·obtain⟨v,hv,e1,e2⟩:=hb s hs
    obtain⟨u,hu,k1,k2⟩:=Ri.more S x v hv
    exact⟨u,hu,e1.trans k1,by rw[e2];exact k2⟩
 obtain⟨S2,H2,hs2,hg⟩:=h1
 have hp2:(D.putS r i x).phase≠0:=by rw[hs2.2.2.2];exact hp
 unfold Wd.put Wd.putY
 by_cases hc:0<(D.putS r i x).cnt (nth t.pt i)
 ·rw[if_pos hc]
  exact(H2.Qf S2 hp2).less (S2.touch _) _
 ·rw[if_neg hc]
  refine H2.strong (fun s hs e _ _ _=> ?_)
  exfalso
  obtain⟨v,hv,e1,e2⟩:=hg s hs
  have h1:=N.cnt v hv
  have h2:nmT ((v.h:Int)+1) t≤sumL (nmT ((v.h:Int)+1)) D.ts:=sumL_mem htl
  have h3:1≤nmT ((v.h:Int)+1) t:=by
   have h4:=nK ((v.h:Int)+1) 0 t.pt i hi
   rw[if_pos (show nth t.pt i=(v.h:Int)+1 by omega),if_neg (show ¬(0:Int)=(v.h:Int)+1 by omega)] at h4
   unfold nmT
   omega
  have h5:=S2.findIt hs
  rw[e] at h5
  unfold Wd.cnt at hc
  rw[h5] at hc
  simp only at hc
  omega
theorem kM(r:Int)(i:Nat)(x y:Int):lT D (D.put r i x y):=by
 have h1:lT D (D.putS r i x):=by
  unfold Wd.putS
  split
  ·exact⟨rfl,rfl,rfl,rfl⟩
  ·exact(eF x).trans ⟨rfl,rfl,rfl,rfl⟩
 unfold Wd.put Wd.putY
 split
 ·exact h1.trans ((eP y).trans (iD y))
 ·exact h1
theorem wu(S:San D)(hs:s∈D.live):D.shd ((s.h:Int)+1)=sv D.parity s.mr:=by
 unfold Wd.shd
 rw[S.findIt hs]
 rfl
theorem eX.tally(H:eX E D)(S:San D)(hF:0≤D.field):eX E D.tally:=by
 unfold Wd.tally
 cases hb:D.bf with
 |false=>rw[if_neg (by decide)];exact H
 |true=>
  rw[if_pos rfl]
  unfold Wd.tallyAt
  cases hf:D.find (D.cursor+1) with
  |none=>
   simp only
   have hno:∀u,u∈D.live→(u.h:Int)≠D.cursor:=fun u hu e=>by
    have:=S.findIt hu
    rw[e,hf] at this
    cases this
   have hph:∀q u,u∈aF D.ts→(D.move (D.cursor+1) 0).ph q u=D.ph q u:=fun q u hu=>by
    have:=hno u hu
    show jf D.parity (D.cursor+1) 0 q u=jf D.parity D.cursor D.field q u
    unfold jf oW
    rw[if_neg this]
    split
    ·rfl
    ·split<;>rfl
   refine⟨fun s hs h1 h2 h3=> ?_,fun s hs h1=> ?_⟩
   ·rw[show(D.move (D.cursor+1) 0).ts=D.ts from rfl,bY (hph _)]
    exact H.sh s hs h1 h2 h3
   ·have h1:(s.h:Int)<D.cursor+1:=h1
    have:=hno s hs
    exact H.ct s hs (by omega)
  |some t=>
   simp only
   obtain⟨htl,e⟩:=find_live hf
   have e:(t.h:Int)=D.cursor:=by omega
   have hun:∀u,u∈D.live→(u.h:Int)=D.cursor→u=t:=fun u hu h=>S.theOne htl hu (by omega)
   by_cases hct:t.mr.count=D.parity
   ·rw[if_pos hct]
    have hph:∀q u,u∈aF D.ts→(D.move (D.cursor+1) 0).ph q u=D.ph q u:=fun q u hu=>by
     show jf D.parity (D.cursor+1) 0 q u=jf D.parity D.cursor D.field q u
     unfold jf oW
     by_cases hc:u.mr.count=D.parity
     ·rw[if_pos hc,if_pos hc]
     ·rw[if_neg hc,if_neg hc,if_neg (show ¬(u.h:Int)=D.cursor from fun h=>hc (by rw[hun u hu h];exact hct))]
      split<;>rfl
    refine⟨fun s hs h1 h2 h3=> ?_,fun s hs h1=> ?_⟩
    ·rw[show(D.move (D.cursor+1) 0).ts=D.ts from rfl,bY (hph _)]
     exact H.sh s hs h1 h2 h3
    ·have h1:(s.h:Int)<D.cursor+1:=h1
     by_cases h4:(s.h:Int)=D.cursor
     ·rw[hun s hs h4]
      exact hct
     ·exact H.ct s hs (by omega)
   ·rw[if_neg hct]
    by_cases hff:D.field<(t.pt.length:Int)
    ·rw[if_pos hff]
     obtain⟨f,hfe⟩:=Int.eq_ofNat_of_zero_le hF
     have hfl:f<t.pt.length:=by omega
     have hft:D.field.toNat=f:=by omega
     rw[hft]
     have hsum:∀q,sumL (((D.aR (nth t.pt f)).move D.cursor (D.field+1)).ph q) ((D.aR (nth t.pt f)).move D.cursor (D.field+1)).ts=sumL (D.ph q) D.ts+if nth t.pt f=q then 1 else 0:=fun q=>by
      have h1:sumL (jf D.parity D.cursor (D.field+1) q) (D.aR (nth t.pt f)).ts=sumL (jf D.parity D.cursor (D.field+1) q) D.ts:=dJ _ (fun t=>pW rfl)
      have h2:sumL (jf D.parity D.cursor (D.field+1) q) D.ts=sumL (D.ph q) D.ts+if nth t.pt f=q then 1 else 0:=by
       refine lL (t:=t) S.nd htl ?_ (fun u hu hne=> ?_)
       ·have h3:=oD q t.pt hfl
        show jf D.parity D.cursor (D.field+1) q t=jf D.parity D.cursor D.field q t+_
        unfold jf oW
        rw[if_neg hct,if_neg hct,if_pos e,if_pos e,hft,show(D.field+1).toNat=f+1 by omega]
        exact h3
       ·show jf D.parity D.cursor (D.field+1) q u=jf D.parity D.cursor D.field q u
        unfold jf oW
        rw[if_neg (show ¬(u.h:Int)=D.cursor by omega),if_neg (show ¬(u.h:Int)=D.cursor by omega)]
      exact h1.trans h2
     refine⟨fun s hs h1 h2 h3=> ?_,fun s hs h1=> ?_⟩
     ·rw[hsum]
      have hs2:s∈(D.mark (nth t.pt f) (fun m=>{m with shade:=D.parity,shadow:=D.shd (nth t.pt f)+1})).live:=hs
      show sv D.parity s.mr=_
      have h3:s.mr.color≠D.parity:=h3
      obtain⟨v,hv,e1,_,hm⟩:=bC S hs2
      rcases hm with⟨k1,k2⟩|⟨k1,k2⟩
      ·rw[k2] at h2 h3 ⊢
       rw[e1] at h1 ⊢
       have h4:=H.sh v hv h1 h2 h3
       have h5:=wu S hv
       rw[if_pos k1.symm]
       unfold sv
       rw[if_pos rfl]
       show D.shd (nth t.pt f)+1=_
       rw[←k1,h5,h4]
       omega
      ·rw[k2] at h2 h3 ⊢
       rw[e1] at h1 ⊢
       rw[if_neg (fun h=>k1 h.symm),H.sh v hv h1 h2 h3]
       rfl
     ·have h1:(s.h:Int)<D.cursor:=h1
      obtain⟨v,hv,e1,e2⟩:=pM S (show s∈(D.aR (nth t.pt f)).live from hs)
      rw[e2]
      exact H.ct v hv (by omega)
    ·rw[if_neg hff]
     have hsum:∀q,sumL (((D.done (D.cursor+1)).move (D.cursor+1) 0).ph q) ((D.done (D.cursor+1)).move (D.cursor+1) 0).ts=sumL (D.ph q) D.ts:=fun q=>by
      have h1:=gp (φ:=jf D.parity (D.cursor+1) 0 q) (g:=fun t=>{t with mr:={t.mr with count:=D.parity}}) hf (find_at hf).2.1
      have h2:jf D.parity (D.cursor+1) 0 q {t with mr:={t.mr with count:=D.parity}}=D.ph q t:=by
       show _=jf D.parity D.cursor D.field q t
       unfold jf oW
       rw[if_pos rfl,if_neg hct,if_pos e,List.take_of_length_le (Nat.le_refl _),List.take_of_length_le (by omega)]
      have h3:jf D.parity (D.cursor+1) 0 q t=0:=by
       unfold jf oW
       rw[if_neg hct,if_neg (by omega)]
       rfl
      have h4:sumL (D.ph q) D.ts=sumL (jf D.parity (D.cursor+1) 0 q) D.ts+D.ph q t:=by
       refine lL (t:=t) S.nd htl (by omega) (fun u hu hne=> ?_)
       show jf D.parity D.cursor D.field q u=jf D.parity (D.cursor+1) 0 q u
       unfold jf oW
       rw[if_neg (show ¬(u.h:Int)=D.cursor by omega)]
       split
       ·rfl
       ·split<;>rfl
      have h5:((D.done (D.cursor+1)).move (D.cursor+1) 0).ts=updL (D.cursor+1) (fun t=>{t with mr:={t.mr with count:=D.parity}}) D.ts:=rfl
      rw[h5]
      show sumL (jf D.parity (D.cursor+1) 0 q) _=_
      omega
     refine⟨fun s hs h1 h2 h3=> ?_,fun s hs h1=> ?_⟩
     ·rw[hsum]
      have hs2:s∈(D.mark (D.cursor+1) (fun m=>{m with count:=D.parity})).live:=hs
      show sv D.parity s.mr=_
      have h3:s.mr.color≠D.parity:=h3
      obtain⟨v,hv,e1,_,hm⟩:=bC S hs2
      rcases hm with⟨k1,k2⟩|⟨k1,k2⟩
      ·rw[k2] at h2 h3 ⊢
       rw[e1] at h1 ⊢
       exact H.sh v hv h1 h2 h3
      ·rw[k2] at h2 h3 ⊢
       rw[e1] at h1 ⊢
       exact H.sh v hv h1 h2 h3
     ·have h1:(s.h:Int)<D.cursor+1:=h1
      obtain⟨v,hv,e1,h4⟩:=uT S (show s∈(D.done (D.cursor+1)).live from hs)
      rcases h4 with⟨_,h4⟩|⟨k1,h4⟩
      ·exact h4
      ·rw[h4]
       exact H.ct v hv (by omega)
theorem kQ:D.tally.phase=D.phase∧D.tally.parity=D.parity:=by
 unfold Wd.tally
 split
 ·unfold Wd.tallyAt
  split
  ·exact⟨rfl,rfl⟩
  ·split
   ·exact⟨rfl,rfl⟩
   ·split<;>exact⟨rfl,rfl⟩
 ·exact⟨rfl,rfl⟩
theorem bu.same(h:bu D)(k:D'.ts=D.ts)(hp:D'.parity=D.parity):bu D':=⟨hp.trans h.1,by rw[k];exact h.2⟩
theorem bu.upd(h:bu D)(k:D'.ts=updL r g D.ts)(hp:D'.parity=D.parity)(hg:∀t,(g t).mr.count=t.mr.count∧(g t).mr.shade=t.mr.shade):bu D':=
 ⟨hp.trans h.1,by rw[k];exact iI (P:=fun t=>t.mr.count=0∧t.mr.shade=0) (fun t ht=>by rw[(hg t).1,(hg t).2];exact ht) r h.2⟩
theorem bu.touch(h:bu D)(r:Int):bu (D.touch r):=by
 rcases touch_ts (D:=D) r with k|k
 ·exact h.same k (eP r).1
 ·exact(h.mark r (f:=fun m=>{m with color:=D.parity}) (fun m hm=>hm)).same k (eP r).1
theorem bu.bury(h:bu D)(x:Int):bu (D.bury x):=by
 unfold Wd.bury
 split
 ·exact h
 ·split
  ·exact h
  ·exact h.upd (lay_ts x _) rfl (fun _=>⟨rfl,rfl⟩)
theorem bu.inter(h:bu D)(x:Int):bu (D.inter x):=by
 unfold Wd.inter
 split
 ·exact h.bury x
 ·exact h
theorem bu.more(h:bu D)(x:Int):bu (D.more x):=(h.mark x (f:=fun m=>{m with refs:=m.refs+1}) (fun m hm=>hm)).touch x
theorem bu.less(h:bu D)(x:Int):bu (D.less x):=((h.mark x (f:=fun m=>{m with refs:=m.refs-1}) (fun m hm=>hm)).same (D':=(D.down x).sus) rfl rfl).inter x
theorem bu.put(h:bu D)(r:Int)(i:Nat)(x y:Int):bu (D.put r i x y):=by
 have h1:bu (D.putS r i x):=by
  unfold Wd.putS
  split
  ·exact h.setP r i x
  ·exact(h.more x).setP r i x
 unfold Wd.put Wd.putY
 split
 ·exact(h1.touch y).less y
 ·exact h1
theorem bu.born(h:bu D)(x y:Int):bu (D.born x y):=by
 unfold Wd.born
 split
 ·exact((h.mkD x y).dye _).more _
 ·exact h
theorem bu.lighten(h:bu D)(x:Int):bu (D.lighten x):=by
 unfold Wd.lighten
 split
 ·exact h.mark x (fun m hm=>hm)
 ·exact h
theorem bu.drain(h:bu D)(r:Int)(i:Nat)(x:Int):bu (D.drain r i x):=by
 have key:∀D2:Wd,bu D2→bu ((D2.down x).inter x):=fun D2 h=>(h.mark x (f:=fun m=>{m with refs:=m.refs-1}) (fun m hm=>hm)).inter x
 unfold Wd.drain
 by_cases hc:(D.setP r i 0).cnt x=0
 ·rw[if_pos hc]
  exact h.setP r i 0
 ·rw[if_neg hc]
  refine key _ ?_
  split
  ·exact(h.setP r i 0).lighten x
  ·exact h.setP r i 0
theorem bu.step(h:bu D):bu D.step:=by
 unfold Wd.step
 split
 ·exact h
 ·split
  ·exact h
  ·unfold Wd.work
   split
   ·exact(h.drain _ _ _).mark _ (fun m hm=>hm)
   ·split
    ·exact h.upd (cut_mark _ _ _ _) rfl (fun _=>⟨rfl,rfl⟩)
    ·exact h.upd (g:=fun s=>{s with ended:=true}) rfl rfl (fun _=>⟨rfl,rfl⟩)
def TM(D:Wd):Prop:=(D.phase=0∧bu D)∨(D.phase=1∧eX (fun _=>False) D)
theorem TM.up(T:TM D)(S:San D)(r:Int):TM (D.more r):=by
 rcases T with⟨h,k⟩|⟨h,k⟩
 ·exact .inl ⟨(eF r).2.2.2.trans h,k.more r⟩
 ·exact .inr ⟨(eF r).2.2.2.trans h,k.more S r⟩
theorem TM.less(T:TM D)(S:San D)(r:Int):TM (D.less r):=by
 rcases T with⟨h,k⟩|⟨h,k⟩
 ·exact .inl ⟨(iD r).2.2.2.trans h,k.less r⟩
 ·exact .inr ⟨(iD r).2.2.2.trans h,k.less S r⟩
theorem TM.put(T:TM D)(S:San D)(N:Nam hold D)(hf:D.find r=some t)(hd:t.mr.dead=false){i:Nat}(hi:i<t.pt.length):TM (D.put r i x (nth t.pt i)):=by
 rcases T with⟨h,k⟩|⟨h,k⟩
 ·exact .inl ⟨(kM _ _ _ _).2.2.2.trans h,k.put _ _ _ _⟩
 ·exact .inr ⟨(kM _ _ _ _).2.2.2.trans h,k.put S N (by omega) hf hd hi⟩
theorem TM.born{N:Nat}(T:TM D)(S:San D)(B:BornOk D x y N):TM (D.born x y):=by
 rcases T with⟨h,k⟩|⟨h,k⟩
 ·exact .inl ⟨jd.2.2.2.trans h,k.born x y⟩
 ·exact .inr ⟨jd.2.2.2.trans h,k.born S B⟩
theorem TM.step(T:TM D)(S:San D)(N:Nam hold D)(hF:0≤D.field):TM D.step:=by
 rcases T with⟨h,k⟩|⟨h,k⟩
 ·exact .inl ⟨jl.2.2.2.trans h,k.step⟩
 ·exact .inr ⟨jl.2.2.2.trans h,k.step S N (.inl h) hF⟩
theorem TM.tally(T:TM D)(S:San D)(hF:0≤D.field):TM D.tally:=by
 rcases T with⟨h,k⟩|⟨h,k⟩
 ·have e:D.tally=D:=mQ (wF (by omega))
  rw[e]
  exact .inl ⟨h,k⟩
 ·exact .inr ⟨kQ.1.trans h,k.tally S hF⟩
theorem TM.begin_(T:TM D)(h0:D.phase=0):TM (D.turn.begin 1):=by
 rcases T with⟨h,k⟩|⟨h,k⟩
 ·refine .inr ⟨rfl,?_,?_⟩
  ·intro s hs _ _ _
   have hp:(D.turn.begin 1).parity=1:=by
    show 1-D.parity=1
    rw[k.1]
    rfl
   have hm:=k.2 s (dN.1 (show s∈aF D.ts from hs)).1
   rw[hp]
   unfold sv
   rw[if_neg (by rw[hm.2];decide),sumL_none (fun u hu=> ?_)]
   ·rfl
   ·have hu2:=k.2 u (dN.1 (show u∈aF D.ts from hu)).1
    show jf (D.turn.begin 1).parity 0 0 _ u=0
    rw[hp]
    unfold jf oW
    rw[if_neg (by rw[hu2.1];decide)]
    split<;>rfl
  ·intro s hs h1
   have h1:(s.h:Int)<0:=h1
   omega
 ·omega
theorem TM.end_{N:Nat}(T:TM D)(S:San D)(hN:D.n=N)(hb:D.bf=false)(h1:D.phase=1)(hlt:∀t,t∈D.live→t.h<N)(hs:s∈D.live)(hd:s.mr.dead=false)(hc:s.mr.color≠D.parity):D.shd ((s.h:Int)+1)=((sumL (nmT ((s.h:Int)+1)) D.ts:Nat):Int):=by
 rcases T with⟨h,_⟩|⟨_,H⟩
 ·omega
 ·rw[wu S hs,H.sh s hs (fun h=>h) hd hc]
  congr 1
  refine bY (fun u hu=> ?_)
  have hcu:(D.n:Int)≤D.cursor:=by
   unfold Wd.bf at hb
   rw[decide_eq_true h1] at hb
   simp at hb
   exact hb
  have:=H.ct u hu (by have:=hlt u hu;omega)
  show jf D.parity D.cursor D.field _ u=_
  unfold jf oW nmT
  rw[if_pos this,List.take_length]
end
theorem wT{g:Th→Th}{r:Int}{s:Th}:∀{l:List Th},s∈updL r g l→s∈l∨∃t,findL r l=some t∧s=g t
 |[],h=>by simp[updL] at h
 |u::l,h=>by
  unfold updL at h
  unfold findL
  cases hu:u.at r with
  |true=>
   rw[hu] at h
   simp only[if_true] at h ⊢
   rcases List.mem_cons.1 h with rfl|h
   ·exact .inr ⟨u,rfl,rfl⟩
   ·exact .inl (List.mem_cons_of_mem _ h)
  |false=>
   rw[hu] at h
   simp only[Bool.false_eq_true,if_false] at h ⊢
   rcases List.mem_cons.1 h with rfl|h
   ·exact .inl (List.mem_cons_self ..)
   ·rcases wT h with h|h
    ·exact .inl (List.mem_cons_of_mem _ h)
    ·exact .inr h
def RL(D:Wd):Prop:=∀t,t∈D.ts→t.ended=false∧(t.mr.dead=true→t.mr.leaves=(t.lv.length:Int))
structure oV (L:List Int) (D:Wd):Prop where
 san:San D
 nd:(D.ts.map Th.h).Nodup
 refs:D.dz=L
 dy:bu D
 fl:RL D
section
variable {L:List Int} {D D':Wd} {t:Th} {w wr:World} {p:Pl} {N k:Nat}
theorem nE.Rt(G:nE N D k)(h:bu D):oV D.dz D:=⟨G.san,G.nd,rfl,h,fun t ht=>⟨G.all t ht,fun hd=>by
 have:=G.alive (dN.2 ⟨ht,G.all t ht⟩)
 rw[this] at hd
 cases hd⟩⟩
theorem oV.inter(F:oV L D)(x:Int):oV L (D.inter x):=by
 refine⟨F.san.inter x,by rw[lu];exact F.nd,(oM (lu x)).trans F.refs,?_,?_⟩
 ·unfold Wd.inter
  split
  ·unfold Wd.bury
   split
   ·exact F.dy
   ·split
    ·exact F.dy
    ·rename_i t _ _
     exact⟨F.dy.1,by rw[lay_ts];exact iI (P:=fun t=>t.mr.count=0∧t.mr.shade=0) (g:=fun s=>{s with mr:={s.mr with dead:=true,left:=(t.pt.length:Int),leaves:=(t.lv.length:Int)}}) (fun t ht=>ht) x F.dy.2⟩
  ·exact F.dy
 ·unfold Wd.inter
  split
  ·unfold Wd.bury
   split
   ·exact F.fl
   ·split
    ·exact F.fl
    ·rename_i t hf _
     intro s hs
     rw[lay_ts] at hs
     rcases wT hs with hs|⟨u,hu,rfl⟩
     ·exact F.fl s hs
     ·have e:u=t:=Option.some.inj (hu.symm.trans hf)
      subst e
      exact⟨(F.fl u (ig hu)).1,fun _=>rfl⟩
  ·exact F.fl
theorem oV.len(F:oV L D)(hw:D.w=16):sumL (fun t=>t.pt.length) D.ts≤15*sumL occT D.ts:=mO 15 (fun t ht=>by
 have hm:=(dN.1 ht).1
 have hg:=(F.san.ok t ht).qp
 have ho:occT t=1+t.lv.length:=by
  unfold occT
  split
  ·rename_i hd
   rw[(F.fl t hm).2 hd]
   simp
  ·rfl
 rw[hw] at hg
 rw[ho]
 by_cases h:t.pt.length+t.dt.length≤16-8
 ·omega
 ·have:=(hg.big h).2
  omega)
theorem oV.find(F:oV L D){j:Nat}(hj:j<L.length):∃t,D.find (nth L j)=some t:=by
 have hr:=F.refs
 subst hr
 have hj2:j<D.ts.length:=by unfold Wd.dz at hj;simpa using hj
 have e:nth D.dz j=(D.ts[j].h:Int)+1:=by
  unfold nth Wd.dz
  rw[List.getD_eq_getElem?_getD]
  simp[hj2]
 have h:=zB (l:=D.ts) F.nd (List.getElem_mem hj2)
 rw[(F.fl _ (List.getElem_mem hj2)).1] at h
 rw[e]
 exact⟨_,h⟩
theorem oV.ci(F:oV L D)(h:RSt w p (cfR N) D wr):CI N 0 0 0 (D.turn.begin 1):=by
 have hl:=F.len h.w16
 have ht:=h.total F.san
 have hc:(cfR N).N=N:=rfl
 rw[hc] at ht
 have hn:D.n=N:=by
  obtain⟨zs,m,_,hR,_⟩:=h
  exact hR.n
 have hlt:∀t,t∈D.live→t.h<N:=fun t ht=>by
  obtain⟨zs,m,_,hR,_⟩:=h
  exact hR.hlt ht
 have hp:(D.turn.begin 1).parity=1:=by
  show 1-D.parity=1
  rw[F.dy.1]
  rfl
 have hz:∀u,sQ 0 0 u=0:=fun u=>by
  unfold sQ
  rw[if_neg (by omega)]
  split<;>rfl
 refine⟨F.san.same_but rfl rfl rfl rfl (fun b hb=>.inl hb),rfl,rfl,rfl,hn,Nat.zero_le _,fun t ht=> ?_,.inl rfl,fun q t hq=> ?_,?_,hlt,?_⟩
 ·rw[hp,(F.dy.2 t (dN.1 ht).1).1]
  exact⟨fun h=>absurd h (by decide),fun h=>absurd h (Nat.not_lt_zero _)⟩
 ·rw[F.dy.shd hp rfl q,sumL_none (φ:=AZ q 0 0) (fun u _=>by unfold AZ;rw[hz u];rfl)]
  rfl
 ·rw[sumL_none (φ:=sQ 0 0) (fun u _=>hz u)]
 ·show N+sumL (fun t=>t.pt.length) D.ts≤_
  omega
end
end Go.Proofs.YtjmifnljckmimaaGreat.Pk
