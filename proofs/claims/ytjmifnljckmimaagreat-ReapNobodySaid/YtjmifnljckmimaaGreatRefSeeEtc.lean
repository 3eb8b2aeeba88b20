/-
  Texts laid together: RefSee, LinkPl, LinkPi, RefT, Tally, TallyBeg, TallyNob, TallyCnt, TallyHold.
-/
import Derived.Test.YtjmifnljckmimaaGreatRefG3Etc
import Derived.Test.YtjmifnljckmimaaGreatGravGrownEtc
import Derived.Test.YtjmifnljckmimaaGreatLinkWEtc
import Derived.Test.YtjmifnljckmimaaGreatTintActFEtc
import Derived.Test.YtjmifnljckmimaaGreatRefMkEtc
import Derived.Test.YtjmifnljckmimaaGreatGravCntEtc
import Derived.Test.YtjmifnljckmimaaGreatActsWzEtc
namespace Go.Proofs.YtjmifnljckmimaaGreat.Pk
open Go.RowKit
set_option linter.unusedVariables false
set_option linter.unusedSimpArgs false
set_option maxRecDepth 100000
section
variable {w w':World} {lo:Nat} {lab:Nat→Nat} {a:WA} {D:Wd} {i:Nat} {t t':Th} {x:TA} {n v b:Nat} {c:Cf} {zs:List Int}
theorem au.szt(R:au c zs D)(hm:c.May)(S:San D)(htl:t∈D.live):SzT D.w t:=by
 have ho:=R.heap.obs t.ob (R.obMem htl)
 have hw:=hm.w
 have e:t.ob.f=t.pt.length+t.dt.length:=rfl
 have h1:=ho.size
 rw[e] at h1
 rw[R.w]
 refine⟨by omega,by omega,h1,fun hb=> ?_⟩
 have g:=(S.ok t htl).tC.big (by rw[R.w];exact hb)
 rw[R.w] at g
 exact g.2
def Qb(w:World)(v1:Value)(k:Nat)(l:List Int)(wr:World):Prop:=
 wr.ownsRow (w.heap.size+2) 3 1 v1 k (l.map (Value.int .i64))∧Blk wr (w.heap.size+1) #[v1,.slice none 0 0] 57∧Blk wr w.heap.size #[.slice none 0 0,.slice none 0 0] 57∧Below w.heap.size w wr
def Qc(w w8:World)(v1 v2:Value)(k:Nat)(l:List Int)(wr:World):Prop:=
 wr.ownsRow w8.heap.size 119 1 v2 k (l.map (Value.int .u32))∧Blk wr (w.heap.size+1) #[v1,v2] 57∧Blk wr w.heap.size #[.slice none 0 0,.slice none 0 0] 57∧Touch (fun b=>b=w.heap.size+1) w8 wr
theorem Qb.push{w w1:World}{v1 v':Value}{k:Nat}{l:List Int}{y:Int}{wr:World}(h:Qb w v1 k l wr)(hk:l.length=k)(ho:w1.ownsRow (w.heap.size+2) 3 1 v' (k+1) ((l++[y]).map (Value.int .i64)))(hg:(wr.alloc (.cells #[.int .i64 y] 3)).grownBy w1 v1.ownBlock):
  Qb w v' (k+1) (l++[y]) (w1.setCell ⟨w.heap.size+1,0,none⟩ v')∧w1.cell? ⟨w.heap.size+1,0,none⟩=some v1∧w1.frozen? ⟨w.heap.size+1,0,none⟩=false:=by
 obtain⟨h1,h2,h3,h4⟩:=h
 have hn:∀g,v1.ownBlock=some g→w.heap.size+2≤g:=aU h1
 have T:Touch (fun q=>w.heap.size+2≤q) wr w1:=(Touch.of_below (below_new wr _)).trans ((iL hg).mono (fun q _ e=>hn q e))
 have hB:=h2.touch T (by omega)
 have hZ:=h3.touch T (by omega)
 refine⟨⟨?_,hB.put 0 v' rfl,hZ.other (by show w.heap.size+1≠w.heap.size;omega) _,?_⟩,hB.cell 0 rfl,hB.free 0⟩
 ·exact cZ ho ((Touch.refl (fun q=>q=w.heap.size+1) w1).setCell (p:=⟨w.heap.size+1,0,none⟩) (fun _=>rfl) v') (fun g hgg e=>by have:=aU ho g hgg;omega)
 ·exact(h4.trans (T.below (fun q hq=>by omega) h4.size)).setCell (by show w.heap.size≤w.heap.size+1;omega) _
theorem Qc.push{w w8 w1:World}{v1 v2 v':Value}{k:Nat}{l:List Int}{y:Int}{wr:World}(h:Qc w w8 v1 v2 k l wr)(hs:w.heap.size+2≤w8.heap.size)(ho:w1.ownsRow w8.heap.size 119 1 v' (k+1) ((l++[y]).map (Value.int .u32)))(hg:(wr.alloc (.cells #[.int .u32 y] 119)).grownBy w1 v2.ownBlock):
  Qc w w8 v1 v' (k+1) (l++[y]) (w1.setCell ⟨w.heap.size+1,1,none⟩ v')∧w1.cell? ⟨w.heap.size+1,1,none⟩=some v2∧w1.frozen? ⟨w.heap.size+1,1,none⟩=false:=by
 obtain⟨h1,h2,h3,h4⟩:=h
 have hn:∀g,v2.ownBlock=some g→w8.heap.size≤g:=aU h1
 have T:Touch (fun q=>w8.heap.size≤q) wr w1:=(Touch.of_below (below_new wr _)).trans ((iL hg).mono (fun q _ e=>hn q e))
 have hB:=h2.touch T (by omega)
 have hZ:=h3.touch T (by omega)
 have T8:Touch (fun q=>q=w.heap.size+1) w8 w1:=by
  have:=h4.size
  refine⟨T.os.trans h4.os,T.tape.trans h4.tape,T.output.trans h4.output,Nat.le_trans h4.size T.size,fun q hq hx=> ?_⟩
  exact(T.block q (by omega) (by omega)).trans (h4.block q hq hx)
 refine⟨⟨?_,hB.put 1 v' rfl,hZ.other (by show w.heap.size+1≠w.heap.size;omega) _,T8.setCell (p:=⟨w.heap.size+1,1,none⟩) (fun _=>rfl) v'⟩,hB.cell 1 rfl,hB.free 1⟩
 exact cZ ho ((Touch.refl (fun q=>q=w.heap.size+1) w1).setCell (p:=⟨w.heap.size+1,1,none⟩) (fun _=>rfl) v') (fun g hgg e=>by have:=aU ho g hgg;omega)
theorem Qb.drw{w:World}{v1:Value}{k:Nat}{l:List Int}{wr w2:World}(h:Qb w v1 k l wr)(d:Drw wr w2):Qb w v1 k l w2:=by
 obtain⟨m,rfl⟩:=d
 exact⟨h.1,h.2.1,h.2.2.1,h.2.2.2.trans (Drw.below ⟨m,rfl⟩ _)⟩
theorem Qc.drw{w w8:World}{v1 v2:Value}{k:Nat}{l:List Int}{wr w2:World}(h:Qc w w8 v1 v2 k l wr)(d:Drw wr w2):Qc w w8 v1 v2 k l w2:=by
 obtain⟨m,rfl⟩:=d
 exact⟨h.1,h.2.1,h.2.2.1,h.2.2.2.drewN m⟩
end
section
variable {c:Cf} {zs zs':List Int} {D D':Wd} {t u:Th} {r x y:Int} {w wr w':World} {p:Pl} {q lo m k n:Nat}
structure Sit (c:Cf) (D:Wd):Prop where
 san:San D
 rep:∃zs,Wz c zs∧au c zs D
theorem RSt.sit(h:RSt w p c D wr)(S:San D):Sit c D:=by
 obtain⟨zs,m,hG,hR,_⟩:=h
 exact⟨S,zs,hG.wz,hR⟩
theorem Sit.wb(h:Sit c D)(hN:c.N≤1000):WB D:=by
 obtain⟨zs,hz,R⟩:=h.rep
 have hp:=h.san.vT R hz.may
 have h1:=cO R.ring.nd R.ring.lt
 have h2:(D.grave.map (· -1)).length≤c.N:=cO R.grave.nd R.grave.lt
 have h3:=cO R.heap.pl.ch.nd R.heap.pl.ch.lt
 rw[List.length_map] at h2
 refine⟨by omega,by omega,by omega,hp.1,by omega,fun r t hf=> ?_,fun r t hf=> ?_,fun r t hf=> ?_⟩
 ·have:=(R.sizes hz (find_live hf).1).2;omega
 ·exact R.Oj hz (find_live hf).1
 ·have e:=(R.own t (find_live hf).1).w4
  have:=hz.wf (adr c t.h 4)
  rw[←e]
  exact this
theorem Sit.lens(h:Sit c D):D.ring.length≤c.N∧D.grave.length≤c.N∧D.clean.length≤c.N:=by
 obtain⟨zs,hz,R⟩:=h.rep
 have h1:=cO R.ring.nd R.ring.lt
 have h2:(D.grave.map (· -1)).length≤c.N:=cO R.grave.nd R.grave.lt
 have h3:=cO R.heap.pl.ch.nd R.heap.pl.ch.lt
 rw[List.length_map] at h2
 exact⟨h1,h2,h3⟩
theorem Sit.szt(h:Sit c D)(ht:t∈D.live):SzT D.w t:=by
 obtain⟨zs,hz,R⟩:=h.rep
 exact R.szt hz.may h.san ht
theorem Sit.step(h:Sit c D):Sit c D.step:=by
 obtain⟨zs,hz,R⟩:=h.rep
 obtain⟨zs1,_,R1,hz1⟩:=(Mx (c:=c) h.san).at hz R
 exact⟨h.san.step,zs1,hz1,R1⟩
end
section
variable {c:Cf} {D D':Wd} {t u:Th} {r x y:Int} {k K N n:Nat}
def fH(k:Nat)(D:Wd):Prop:=∀q t,D.find q=some t→t.mr.refs≤(k:Int)∧t.mr.shadow≤(k:Int)
theorem fH.mono(h:fH k D)(hk:k≤K):fH K D:=fun q t hf=>by have:=h q t hf;omega
theorem fH.ts(h:fH k D)(e:D'.ts=D.ts):fH k D':=fun q t hf=>h q t (by unfold Wd.find at *;rw[←e];exact hf)
theorem fH.upd(h:fH k D)(r:Int)(g:Th→Th)(hk:k≤K)(hg:∀t,(g t).ended=t.ended∧(g t).h=t.h)(h1:∀t,D.find r=some t→(g t).mr.refs≤(K:Int)∧(g t).mr.shadow≤(K:Int)):fH K (D.upd r g):=fun q s hs=>by
 rw[nQ hg] at hs
 cases hq:D.find q with
 |none=>rw[hq] at hs;cases hs
 |some t=>
  rw[hq] at hs
  simp only[Option.map_some,Option.some.injEq] at hs
  by_cases e:t.at r=true
  ·rw[if_pos e] at hs
   have hr:q=r:=by
    have:=(find_live hq).2
    unfold Th.at at e
    simp at e
    omega
   subst hs
   exact h1 t (by rw[←hr];exact hq)
  ·rw[if_neg e] at hs
   subst hs
   have:=h q t hq
   omega
theorem fH.mark(h:fH k D)(r:Int)(f:Mrk→Mrk)(hk:k≤K)(h1:∀t,D.find r=some t→(f t.mr).refs≤(K:Int)∧(f t.mr).shadow≤(K:Int)):fH K (D.mark r f):=
 h.upd r (fun t=>{t with mr:=f t.mr}) hk (fun _=>⟨rfl,rfl⟩) h1
theorem fH.keep(h:fH k D)(r:Int)(f:Mrk→Mrk)(h1:∀m,(f m).refs≤m.refs)(h2:∀m,(f m).shadow≤m.shadow):fH k (D.mark r f):=
 h.mark r f (Nat.le_refl _) (fun t ht=>by have:=h r t ht;have:=h1 t.mr;have:=h2 t.mr;omega)
theorem fH.setP(h:fH k D)(r:Int)(i:Nat)(x:Int):fH k (D.setP r i x):=h.upd r (fun t=>{t with pt:=t.pt.set i x}) (Nat.le_refl _) (fun _=>⟨rfl,rfl⟩) (fun t ht=>h r t ht)
theorem fH.touch(h:fH k D)(r:Int):fH k (D.touch r):=by
 rcases gW (D:=D) r with e|e
 ·exact h.ts e
 ·exact(h.keep r (fun m=>{m with color:=D.parity}) (fun _=>Int.le_refl _) (fun _=>Int.le_refl _)).ts e
theorem fH.more(h:fH k D)(r:Int):fH (k+1) (D.more r):=
 (h.mark r (fun m=>{m with refs:=m.refs+1}) (Nat.le_succ k) (fun t ht=>by have:=h r t ht;show t.mr.refs+1≤_∧t.mr.shadow≤_;omega)).touch r
theorem fH.down(h:fH k D)(r:Int):fH k (D.down r):=h.keep r (fun m=>{m with refs:=m.refs-1}) (fun m=>by show m.refs-1≤m.refs;omega) (fun _=>Int.le_refl _)
theorem fH.ah(h:fH k D)(r:Int):fH k (D.ah r):=by
 unfold Wd.ah
 split
 ·exact h.keep r (fun m=>{m with shadow:=m.shadow-1}) (fun _=>Int.le_refl _) (fun m=>by show m.shadow-1≤m.shadow;omega)
 ·exact h
theorem fH.bury(h:fH k D)(x:Int):fH k (D.bury x):=by
 unfold Wd.bury
 cases hf:D.find x with
 |none=>exact h
 |some t=>
  simp only
  split
  ·exact h
  ·have:fH k (D.upd x (fun s=>{s with mr:={s.mr with dead:=true,left:=(t.pt.length:Int),leaves:=(t.lv.length:Int)}})):=h.upd x _ (Nat.le_refl _) (fun _=>⟨rfl,rfl⟩) (fun u hu=>h x u hu)
   exact this.ts (gK x t)
theorem fH.inter(h:fH k D)(x:Int):fH k (D.inter x):=by
 unfold Wd.inter
 split
 ·exact h.bury x
 ·exact h
theorem fH.less(h:fH k D)(r:Int):fH k (D.less r):=((h.down r).ts (D':=(D.down r).sus) rfl).inter r
theorem fH.drain(h:fH k D)(r:Int)(i:Nat)(x:Int):fH k (D.drain r i x):=by
 have key:∀D2:Wd,fH k D2→fH k (if(D2.down x).cnt x=0 then(D2.down x).bury x else D2.down x):=fun D2 h2=>by
  split
  ·exact(h2.down x).bury x
  ·exact h2.down x
 unfold Wd.drain
 by_cases hc:(D.setP r i 0).cnt x=0
 ·rw[if_pos hc];exact h.setP r i 0
 ·rw[if_neg hc]
  refine key _ ?_
  split
  ·exact(h.setP r i 0).ah x
  ·exact h.setP r i 0
theorem fH.step(h:fH k D)(S:San D):fH k D.step:=by
 cases hg:D.grave with
 |nil=>rw[show D.step=D by unfold Wd.step;rw[hg]];exact h
 |cons g rest=>
  obtain⟨t,htl,_,hf,hd,d,es⟩:=S.head hg
  rw[es]
  unfold Wd.work
  split
  ·exact(h.drain _ _ _).keep _ _ (fun _=>Int.le_refl _) (fun _=>Int.le_refl _)
  ·split
   ·have h1:fH k (D.upd (g:Int) (fun s=>{s with lv:=s.lv.set (t.mr.leaves-1).toNat (-1),mr:={s.mr with leaves:=t.mr.leaves-1}})):=h.upd _ _ (Nat.le_refl _) (fun _=>⟨rfl,rfl⟩) (fun u hu=>h _ u hu)
    exact h1.ts (fV _ _ _ _)
   ·intro q s hs
    have hlive:({({D with grave:=rest}:Wd).gH (g:Int) t.h with pending:=D.pending-1}:Wd).live=D.live.filter (fun s=>s.h !=t.h):=dn (g:=fun s=>{s with ended:=true}) (fun _=>rfl) S.nd hf
    obtain⟨hl,e⟩:=find_live hs
    rw[hlive] at hl
    have hl2:=(List.mem_filter.1 hl).1
    have:=S.findIt hl2
    rw[e] at this
    exact h q s this
theorem fH.put(h:fH k D)(r:Int)(i:Nat)(x y:Int):fH (k+1) (D.put r i x y):=by
 have h1:fH (k+1) (D.putS r i x):=by
  unfold Wd.putS
  split
  ·exact(h.setP r i x).mono (Nat.le_succ k)
  ·exact(h.more x).setP r i x
 unfold Wd.put Wd.putY
 split
 ·exact(h1.touch y).less y
 ·exact h1
def Qj(N k:Nat)(l:List Nat):Prop:=l.length≤k∧∀h,h∈l→h<N
theorem wK(x:Int):(D.touch x).ts.map Th.h=D.ts.map Th.h:=by
 rcases gW (D:=D) x with h|h
 ·rw[h]
 ·rw[h];exact dw x _
theorem uw(x:Int):(D.more x).ts.map Th.h=D.ts.map Th.h:=(wK x).trans (dw x _)
theorem zH(x:Int):(D.less x).ts.map Th.h=D.ts.map Th.h:=(lC (D:=(D.down x).sus) x).trans (show(D.down x).sus.ts.map Th.h=D.ts.map Th.h from dw (D:=D) x (fun m=>{m with refs:=m.refs-1}))
theorem Pv(r:Int)(i:Nat)(x y:Int):(D.put r i x y).ts.map Th.h=D.ts.map Th.h:=by
 have h1:(D.putS r i x).ts.map Th.h=D.ts.map Th.h:=by
  unfold Wd.putS
  split
  ·exact kS r i x
  ·exact(kS (D:=D.more x) r i x).trans (uw x)
 unfold Wd.put Wd.putY
 split
 ·exact(zH y).trans ((wK y).trans h1)
 ·exact h1
structure PInv (c:Cf) (k:Nat) (D:Wd):Prop where
 san:San D
 bd:fH k D
 hd:Qj c.N k (D.ts.map Th.h)
theorem PInv.new(c:Cf){v:Nat}(hv:16≤v):PInv c 0 (Wd.new c.N v):=⟨San.new c.N hv,fun q t hf=>by simp[Wd.find,Wd.new,aP] at hf,by simp[Wd.new,Qj]⟩
theorem Qj.mono{l:List Nat}(h:Qj N k l)(hk:k≤K):Qj N K l:=⟨Nat.le_trans h.1 hk,h.2⟩
theorem PInv.mono(I:PInv c k D)(hk:k≤K):PInv c K D:=⟨I.san,I.bd.mono hk,I.hd.mono hk⟩
theorem PInv.up(I:PInv c k D):PInv c (k+1) D:=I.mono (Nat.le_succ k)
theorem PInv.to(I:PInv c k D)(S:San D')(B:fH (k+1) D')(e:D'.ts.map Th.h=D.ts.map Th.h):PInv c (k+1) D':=⟨S,B,by rw[e];exact I.hd.mono (Nat.le_succ k)⟩
theorem PInv.step(I:PInv c k D):PInv c k D.step:=⟨I.san.step,I.bd.step I.san,by rw[Ag];exact I.hd⟩
theorem PInv.put(I:PInv c k D)(hf:D.find r=some t)(hd:t.mr.dead=false)(i:Nat)(x y:Int):PInv c (k+1) (D.put r i x y):=
 I.to (I.san.Rl hf hd) (I.bd.put r i x y) (Pv r i x y)
theorem PInv.turn(I:PInv c k D):PInv c (k+1) D.turn:=I.to (I.san.dI rfl rfl rfl rfl (fun b hb=>.inl hb)) ((I.bd.mono (Nat.le_succ k)).ts rfl) rfl
theorem PInv.nM(I:PInv c k D)(i:Int):PInv c (k+1) (D.nM i):=by
 unfold Wd.nM
 split
 ·exact I.to (I.san.dI rfl rfl rfl rfl (fun b hb=>.inl hb)) ((I.bd.mono (Nat.le_succ k)).ts rfl) rfl
 ·exact I.up
theorem PInv.aW(I:PInv c k D)(r:Int):PInv c (k+1) (D.aW r):=by
 refine I.to (I.san.mark r (fun _=>rfl) (fun _=>rfl) (fun _=>rfl)) (I.bd.mark r _ (Nat.le_succ k) (fun t ht=> ?_)) (dw r _)
 have h1:=I.bd r t ht
 refine⟨by show t.mr.refs≤_;omega,?_⟩
 show D.dB r+1≤_
 unfold Wd.dB
 rw[ht]
 show(if t.mr.shade=D.parity then t.mr.shadow else 0)+1≤_
 split<;>omega
theorem PInv.done(I:PInv c k D)(r:Int):PInv c (k+1) (D.done r):=
 I.to (I.san.mark r (fun _=>rfl) (fun _=>rfl) (fun _=>rfl)) ((I.bd.keep r (fun m=>{m with count:=D.parity}) (fun _=>Int.le_refl _) (fun _=>Int.le_refl _)).mono (Nat.le_succ k)) (dw r _)
theorem yl:∀{l1 l2:List Th} {q:Int} {s:Th},aP q (l1++l2)=some s→aP q l1=some s∨aP q l2=some s
 |[],l2,q,s,h=>.inr h
 |u::l,l2,q,s,h=>by
  have e0:aP q ((u::l)++l2)=if u.at q then some u else aP q (l++l2):=rfl
  have e1:aP q (u::l)=if u.at q then some u else aP q l:=rfl
  rw[e0] at h
  rw[e1]
  by_cases e:u.at q=true
  ·rw[if_pos e] at h ⊢;exact .inl h
  ·rw[if_neg e] at h ⊢;exact yl h
theorem PInv.born(I:PInv c k D)(B:BornOk D x y c.N):PInv c (k+1) (D.born x y):=by
 refine⟨B.Rn I.san,?_,?_⟩
 ·unfold Wd.born
  split
  ·rename_i hE
   have h1:fH k (D.mkD x y):=by
    unfold Wd.mkD
    rw[if_pos hE]
    intro q s hs
    have hs:aP q (D.ts++[_])=some s:=hs
    rcases yl hs with h|h
    ·exact I.bd q s h
    ·have:s=⟨D.mkB,ints (D.clean.tail.take (D.mkN x y)),zer x.toNat,zer y.toNat,false,Mrk.new⟩:=by
      unfold aP at h
      split at h
      ·exact(Option.some.inj h).symm
      ·simp[aP] at h
     subst this
     show(0:Int)≤_∧(0:Int)≤_
     omega
   exact(h1.mark _ _ (Nat.le_refl _) (fun t ht=>⟨(h1 _ t ht).1,by show(0:Int)≤_;omega⟩)).more _
  ·exact I.bd.mono (Nat.le_succ k)
 ·unfold Wd.born
  split
  ·rename_i hE
   have e1:(((D.mkD x y).dye (D.mkR x y)).more (D.mkR x y)).ts.map Th.h=(D.mkD x y).ts.map Th.h:=(uw _).trans (dw _ _)
   have e2:(D.mkD x y).ts.map Th.h=D.ts.map Th.h++[D.mkB]:=by unfold Wd.mkD;rw[if_pos hE];show(D.ts++[_]).map Th.h=_;rw[List.map_append];rfl
   rw[e1,e2]
   refine⟨by rw[List.length_append];have:=I.hd.1;simp at *;omega,fun h hh=> ?_⟩
   rcases List.mem_append.1 hh with hh|hh
   ·exact I.hd.2 h hh
   ·rw[List.mem_singleton.1 hh];exact B.lt hE
  ·exact I.hd.mono (Nat.le_succ k)
end
def Wd.bv(D:Wd):Bool:=decide (D.phase=1)&&decide (D.cursor<(D.n:Int))
def Wd.dP(D:Wd):Option Th→Wd
 |none=>D.move (D.cursor+1) 0
 |some t=>if t.mr.count=D.parity then D.move (D.cursor+1) 0
  else if D.field<(t.pt.length:Int) then(D.aW (nth t.pt D.field.toNat)).move D.cursor (D.field+1)
  else(D.done (D.cursor+1)).move (D.cursor+1) 0
def Wd.tally(D:Wd):Wd:=if D.bv then D.dP (D.find (D.cursor+1)) else D
section
variable {w w':World} {lo:Nat} {lab:Nat→Nat} {a:WA} {D D':Wd} {i:Nat} {t t' u:Th} {x:TA}
theorem WAt.move(h:WAt w lo lab a D)(c f:Int):WAt ((w.setCell ⟨a.q,4,none⟩ (.int .i64 c)).setCell ⟨a.q,5,none⟩ (.int .i64 f)) lo lab a (D.move c f):=by
 have k2:=h.setNum (D':={D with cursor:=c}) (k:=4) (u:=.int .i64 c) rfl rfl rfl rfl rfl rfl rfl
 exact k2.setNum (D':=D.move c f) (k:=5) (u:=.int .i64 f) rfl rfl rfl rfl rfl rfl rfl
theorem Touch.move{q:Nat}(h:Touch (fun b=>lo≤b) w w')(hq:lo≤q)(c f:Int):Touch (fun b=>lo≤b) w ((w'.setCell ⟨q,4,none⟩ (.int .i64 c)).setCell ⟨q,5,none⟩ (.int .i64 f)):=
 (h.setCell (p:=⟨q,4,none⟩) (fun _=>hq) _).setCell (p:=⟨q,5,none⟩) (fun _=>hq) _
end
section
variable {c:Cf} {zs:List Int} {D:Wd} {t:Th} {r:Int} {k:Nat}
theorem FT(S:San D)(hz:Wz c zs)(R:au c zs D)(hf:D.find r=some t){i:Nat}(hi:i<t.pt.length):
  In64 (nth t.pt i)∧∃e:Int,gB c 70 [.int .i64 r,.int .i64 (i:Int)] zs 12 zs (.tuple #[.int .i64 (nth t.pt i),.int .i64 e]):=by
 have hr:=find64 hz.may R hf
 obtain⟨htl,_⟩:=find_live hf
 have hk:=S.ok t htl
 cases ha:aS c t.ob i with
 |some a=>
  obtain⟨h1,b0,b1⟩:=qN hz R hr hf hi ha
  exact⟨by constructor<;>omega,0,h1⟩
 |none=>
  have h0:nth t.pt i=0:=by
   cases hd:t.mr.dead with
   |true=>
    have d:=hk.dead hd
    by_cases hl:(i:Int)<t.mr.left
    ·obtain⟨_,a,h⟩:=d.field hz.may R.w.symm hk.tC hl
     rw[ha] at h
     cases h
    ·exact d.zero i (by omega)
   |false=>
    obtain⟨a,h⟩:=(hk.alive hd).field hz.may R.w.symm hk.tC hi
    rw[ha] at h
    cases h
  have hob:=obAt_find R r
  rw[hf] at hob
  have e1:qM c zs D.obs r (i:Int)=nth t.pt i:=by
   unfold qM
   rw[hob]
   show(if kD (i:Int) t.ob.np then gq c zs t.ob (i:Int).toNat else 0)=_
   rw[if_pos (iV (show i<t.ob.np from hi)),Int.toNat_natCast]
   unfold gq
   rw[ha,h0]
  have h:=objFns.ptr c zs D.clean D.obs r (i:Int) hz R.heap hr
  rw[e1] at h
  exact⟨by rw[h0];constructor<;>omega,_,h⟩
theorem zF(S:San D)(hf:D.find r=some t){f:Int}(hn:¬f<(t.pt.length:Int)):Does c D 136 [.int .i64 r,.int .i64 f] 12 D (.bool false):=fun zs hz R=>by
 have hob:=obAt_find R r
 rw[hf] at hob
 obtain⟨d1,hd1,C1⟩:=objFns.iI c zs D.clean D.obs r t.ob hz R.heap hob
 exact⟨zs,⟨d1,hd1,Ay (n:=(t.ob.np:Int)) hn C1⟩,R⟩
theorem Ig(S:San D)(hf:D.find r=some t){j:Nat}(hj:j<t.pt.length)(hb:D.dB (nth t.pt j)<4294967295):Does c D 136 [.int .i64 r,.int .i64 (j:Int)] 33 (D.aW (nth t.pt j)) (.bool true):=fun zs hz R=>by
 have hob:=obAt_find R r
 rw[hf] at hob
 obtain⟨d1,hd1,C1⟩:=objFns.iI c zs D.clean D.obs r t.ob hz R.heap hob
 obtain⟨h64,e,d2,hd2,C2⟩:=FT S hz R hf hj
 obtain⟨zs3,⟨d3,hd3,C3⟩,R3,hz3⟩:=(tintFns.aW c D (nth t.pt j) h64 hb).at hz R
 have hn:(j:Int)<(t.ob.np:Int):=by show(j:Int)<(t.pt.length:Int);omega
 exact⟨zs3,⟨d1+d2+d3,by omega,Jb hn C1 C2 C3⟩,R3⟩
theorem Im{x y:Int}(h0:0≤x)(h1:x≤4294967295)(h2:0≤y)(h3:y≤4294967295):D.yC x y=D.move x y:=by
 unfold Wd.yC Ky
 rw[if_pos (by simp[h0,h1,h2,h3])]
theorem MW{x y:Int}(h0:0≤x)(h1:x≤4294967295)(h2:0≤y)(h3:y≤4294967295):Ky x y=true:=by
 unfold Ky
 simp[h0,h1,h2,h3]
theorem jd{x y:Int}(h0:0≤x)(h1:x≤4294967295)(h2:0≤y)(h3:y≤4294967295):Does c D 53 [.int .i64 x,.int .i64 y] 2 (D.move x y) (.bool true):=by
 have h:=tintFns.move c D x y
 rw[Im h0 h1 h2 h3,MW h0 h1 h2 h3] at h
 exact h
theorem au.GV(R:au c zs D)(hz:Wz c zs):(0≤D.cursor∧D.cursor≤4294967295)∧0≤D.field∧D.field≤4294967295:=by
 have h1:=R.reg 12 (by omega) (by omega)
 have h2:=R.reg 13 (by omega) (by omega)
 have e1:D.reg 12=D.cursor:=rfl
 have e2:D.reg 13=D.field:=rfl
 rw[e1] at h1
 rw[e2] at h2
 have b1:=hz.wf 12
 have b2:=hz.wf 13
 rw[←h1,←h2]
 exact⟨b1,b2⟩
theorem Km(S:San D)(hb:∀q,D.dB q<4294967295):Does c D 76 [] 96 D.tally (.bool D.bv):=fun zs hz R=>by
 have hm:=hz.may
 have hmn:=hm.n
 have hN:=R.n
 obtain⟨⟨k0,k1⟩,f0,f1⟩:=R.GV hz
 obtain⟨zs1,⟨d1,hd1,C1⟩,R1,hz1⟩:=(tintFns.at_ c D).at hz R
 obtain⟨zs2,⟨d2,hd2,C2⟩,R2,hz2⟩:=(tintFns.phase c D).at hz1 R1
 by_cases hp:D.phase=1
 ·rw[hp] at C2
  by_cases hk:D.cursor<(D.n:Int)
  ·have e:D.bv=true:=by unfold Wd.bv;simp[hp,hk]
   have hk':D.cursor<(c.N:Int):=by rw[←hN];exact hk
   have hr:In64 (D.cursor+1):=by constructor<;>omega
   unfold Wd.tally
   rw[e,if_pos rfl]
   obtain⟨zs3,⟨d3,hd3,C3⟩,R3,hz3⟩:=(JY (c:=c) (D:=D) hr).at hz2 R2
   cases hf:D.find (D.cursor+1) with
   |none=>
    rw[hf] at C3
    obtain⟨zs4,⟨d4,hd4,C4⟩,R4,hz4⟩:=(jd (c:=c) (D:=D) (x:=D.cursor+1) (y:=0) (by omega) (by omega) (by omega) (by omega)).at hz3 R3
    exact⟨zs4,⟨d1+d2+d3+d4,by omega,Aw k0 hk' hm C1 C2 C3 C4⟩,R4⟩
   |some t=>
    rw[hf] at C3
    obtain⟨zs4,⟨d4,hd4,C4⟩,R4,hz4⟩:=(tintFns.counted c D (D.cursor+1) D.field hr).at hz3 R3
    have hc:D.counted (D.cursor+1) D.field=decide (t.mr.count=D.parity):=by
     unfold Wd.counted
     rw[hf]
     simp[f0]
    rw[hc] at C4
    unfold Wd.dP
    by_cases hct:t.mr.count=D.parity
    ·rw[show decide (t.mr.count=D.parity)=true from decide_eq_true hct] at C4
     obtain⟨zs5,⟨d5,hd5,C5⟩,R5,hz5⟩:=(jd (c:=c) (D:=D) (x:=D.cursor+1) (y:=0) (by omega) (by omega) (by omega) (by omega)).at hz4 R4
     simp only[hct,if_true]
     exact⟨zs5,⟨d1+d2+d3+d4+d5,by omega,um k0 hk' hm C1 C2 C3 C4 C5⟩,R5⟩
    ·rw[show decide (t.mr.count=D.parity)=false from decide_eq_false hct] at C4
     simp only[hct,if_false]
     by_cases hff:D.field<(t.pt.length:Int)
     ·obtain⟨j,hj⟩:=Int.eq_ofNat_of_zero_le f0
      have hjl:j<t.pt.length:=by omega
      have hsz:=(R4.szt hm S (find_live hf).1).small
      obtain⟨zs5,⟨d5,hd5,C5⟩,R5,hz5⟩:=(Ig (c:=c) S hf hjl (hb _)).at hz4 R4
      obtain⟨zs6,⟨d6,hd6,C6⟩,R6,hz6⟩:=(jd (c:=c) (D:=D.aW (nth t.pt j)) (x:=D.cursor) (y:=(j:Int)+1) (by omega) (by omega) (by omega) (by omega)).at hz5 R5
      simp only[hff,if_true]
      rw[hj] at C1 C4 ⊢
      rw[Int.toNat_natCast]
      exact⟨zs6,⟨d1+d2+d3+d4+d5+d6,by omega,Au (f:=(j:Int)) (by omega) (by omega) k0 hk' hm C1 C2 C3 C4 C5 C6⟩,R6⟩
     ·obtain⟨zs5,⟨d5,hd5,C5⟩,R5,hz5⟩:=(zF (c:=c) S hf hff).at hz4 R4
      obtain⟨zs6,⟨d6,hd6,C6⟩,R6,hz6⟩:=(tintFns.done c D (D.cursor+1) hr).at hz5 R5
      obtain⟨zs7,⟨d7,hd7,C7⟩,R7,hz7⟩:=(jd (c:=c) (D:=D.done (D.cursor+1)) (x:=D.cursor+1) (y:=0) (by omega) (by omega) (by omega) (by omega)).at hz6 R6
      simp only[hff,if_false]
      exact⟨zs7,⟨d1+d2+d3+d4+d5+d6+d7,by omega,Av k0 hk' hm C1 C2 C3 C4 C5 C6 C7⟩,R7⟩
  ·have e:D.bv=false:=by unfold Wd.bv;simp[hk]
   unfold Wd.tally
   rw[e,if_neg (by decide)]
   exact⟨zs2,⟨d1+d2,by omega,DD (by rw[←hN];omega) C1 C2⟩,R2⟩
 ·have e:D.bv=false:=by unfold Wd.bv;simp[hp]
  unfold Wd.tally
  rw[e,if_neg (by decide)]
  exact⟨zs2,⟨d1+d2,by omega,xW hp C1 C2⟩,R2⟩
theorem San.move(S:San D)(x y:Int):San (D.move x y):=S.dI rfl rfl rfl rfl (fun b hb=>.inl hb)
theorem San.aW(S:San D)(x:Int):San (D.aW x):=S.mark x (fun _=>rfl) (fun _=>rfl) (fun _=>rfl)
theorem San.done(S:San D)(x:Int):San (D.done x):=S.mark x (fun _=>rfl) (fun _=>rfl) (fun _=>rfl)
theorem San.tally(S:San D):San D.tally:=by
 unfold Wd.tally
 split
 ·unfold Wd.dP
  split
  ·exact S.move _ _
  ·split
   ·exact S.move _ _
   ·split
    ·exact(S.aW _).move _ _
    ·exact(S.done _).move _ _
 ·exact S
theorem fH.dB(h:fH k D)(q:Int):D.dB q≤(k:Int):=by
 unfold Wd.dB
 split
 ·omega
 ·rename_i t hf
  have:=h q t hf
  split<;>omega
theorem fH.aW(h:fH k D)(x:Int):fH (k+1) (D.aW x):=by
 have hs:=h.dB x
 exact h.mark x _ (Nat.le_succ k) (fun t ht=>by have:=h x t ht;show t.mr.refs≤_∧D.dB x+1≤_;omega)
theorem fH.done(h:fH k D)(x:Int):fH k (D.done x):=h.keep x _ (fun _=>Int.le_refl _) (fun _=>Int.le_refl _)
theorem fH.move(h:fH k D)(x y:Int):fH k (D.move x y):=h.ts rfl
theorem fH.tally(h:fH k D):fH (k+1) D.tally:=by
 have h':=h.mono (Nat.le_succ k)
 unfold Wd.tally
 split
 ·unfold Wd.dP
  split
  ·exact h'.move _ _
  ·split
   ·exact h'.move _ _
   ·split
    ·exact(h.aW _).move _ _
    ·exact(h'.done _).move _ _
 ·exact h'
theorem Ls:D.tally.ts.map Th.h=D.ts.map Th.h:=by
 unfold Wd.tally
 split
 ·unfold Wd.dP
  split
  ·rfl
  ·split
   ·rfl
   ·split
    ·show(D.aW _).ts.map Th.h=_
     unfold Wd.aW
     exact dw _ _
    ·show(D.done _).ts.map Th.h=_
     unfold Wd.done
     exact dw _ _
 ·rfl
theorem PInv.tally(I:PInv c k D):PInv c (k+1) D.tally:=I.to I.san.tally I.bd.tally Ls
end
section
variable {w wr w':World} {p:Pl} {q lo m k n:Nat} {c:Cf} {D D2 D':Wd} {t u:Th} {r i x y sp sd:Int}
theorem ld_begin(ph:Int)(h0:0≤ph)(h3:ph≤3):Does c D 21 [.int .i64 ph] 5 (D.begin ph) (.bool true):=by
 have h:=tintFns.begin_ c D ph
 have e:LY ph=true:=decide_eq_true ⟨h0,h3⟩
 unfold Wd.nM at h
 rw[e,if_pos rfl] at h
 exact h
theorem PInv.begin_(I:PInv c k D)(ph:Int):PInv c (k+1) (D.begin ph):=I.to (I.san.dI rfl rfl rfl rfl (fun b hb=>.inl hb)) ((I.bd.mono (Nat.le_succ k)).ts rfl) rfl
theorem mV(h:D.bv=false):D.tally=D:=by unfold Wd.tally;rw[h];rfl
end
section
variable {D:Wd} {x:Int}
theorem Qr(hw:D.w=16)(h:1≤D.clean.length)(hx:x=1∨x=2):D.mkE x 0=0∧(D.grow x 0).dD.length=D.dD.length+1∧(D.grow x 0).clean.length+1=D.clean.length:=by
 have hs:dJ ((16:Nat):Int) x 0=0∧bL ((16:Nat):Int) x 0=1:=by
  rcases hx with rfl|rfl<;>exact⟨by decide,by decide⟩
 have hE:D.mkE x 0=0:=by
  unfold Wd.mkE
  rw[hw,hs.1,hs.2,if_pos rfl,if_neg (by omega)]
 have hN:D.mkN x 0=0:=by
  unfold Wd.mkN
  rw[hw,hs.2]
  rfl
 refine⟨hE,?_,?_⟩
 ·unfold Wd.grow
  have e:((D.mkD x 0).dye (D.mkR x 0)).dD=(D.mkD x 0).dD:=kQ (dw _ _)
  rw[if_pos hE,e,Gf hE]
  simp
 ·unfold Wd.grow
  rw[if_pos hE]
  show(D.mkD x 0).clean.length+1=_
  unfold Wd.mkD
  rw[if_pos hE,hN]
  show(D.clean.tail.drop 0).length+1=_
  rw[List.drop_zero,List.length_tail]
  omega
end
def zK:List (List Fld):=[[.int .i64 2,.int .i64 0],[.int .i64 1,.int .i64 0]]
theorem KR(w:World)(t:TypeId):Recs (w.alloc (.cells #[.int .i64 2,.int .i64 0,.int .i64 1,.int .i64 0] t)) (some ⟨w.heap.size,0,none⟩) [.int .i64,.int .i64] zK:=by
 have hb:=Blk.new w #[.int .i64 2,.int .i64 0,.int .i64 1,.int .i64 0] t
 intro k r hr
 have:(k=0∧r=[.int .i64 2,.int .i64 0])∨(k=1∧r=[.int .i64 1,.int .i64 0]):=by
  match k,hr with
  |0,hr=>exact .inl ⟨rfl,by simpa[zK] using hr.symm⟩
  |1,hr=>exact .inr ⟨rfl,by simpa[zK] using hr.symm⟩
  |k+2,hr=>simp[zK] at hr
 rcases this with⟨rfl,rfl⟩|⟨rfl,rfl⟩
 ·refine⟨rfl,_,_,rfl,by simp,fun j f hj=> ?_⟩
  match j,hj with
  |0,hj=>
   obtain rfl:f=.int .i64 2:=by simpa using hj.symm
   exact⟨hb.cell 0 rfl,by show(Lit.int .i64 _).wf=true;decide⟩
  |1,hj=>
   obtain rfl:f=.int .i64 0:=by simpa using hj.symm
   exact⟨hb.cell 1 rfl,by show(Lit.int .i64 _).wf=true;decide⟩
  |j+2,hj=>simp at hj
 ·refine⟨rfl,_,_,rfl,by simp,fun j f hj=> ?_⟩
  match j,hj with
  |0,hj=>
   obtain rfl:f=.int .i64 1:=by simpa using hj.symm
   exact⟨hb.cell 2 rfl,by show(Lit.int .i64 _).wf=true;decide⟩
  |1,hj=>
   obtain rfl:f=.int .i64 0:=by simpa using hj.symm
   exact⟨hb.cell 3 rfl,by show(Lit.int .i64 _).wf=true;decide⟩
  |j+2,hj=>simp at hj
theorem iO{P:Th→Prop}{g:Th→Th}(hg:∀t,P t→P (g t))(r:Int):∀{l:List Th},(∀t,t∈l→P t)→∀t,t∈bE r g l→P t
 |[],_,t,ht=>by simp[bE] at ht
 |u::l,h,t,ht=>by
  unfold bE at ht
  split at ht
  ·rcases List.mem_cons.1 ht with rfl|ht
   ·exact hg u (h u (by simp))
   ·exact h t (List.mem_cons_of_mem _ ht)
  ·rcases List.mem_cons.1 ht with rfl|ht
   ·exact h _ (List.mem_cons_self ..)
   ·exact iO hg r (fun t ht=>h t (List.mem_cons_of_mem _ ht)) t ht
def bA(D:Wd):Prop:=D.parity=0∧∀t,t∈D.ts→t.mr.count=0∧t.mr.shade=0
section
variable {D D':Wd} {x y r:Int}
theorem bA.new(n w:Nat):bA (Wd.new n w):=⟨rfl,fun t ht=>by simp[Wd.new] at ht⟩
theorem bA.mark(h:bA D)(r:Int){f:Mrk→Mrk}(hf:∀m,m.count=0∧m.shade=0→(f m).count=0∧(f m).shade=0):bA (D.mark r f):=
 ⟨h.1,iO (P:=fun t=>t.mr.count=0∧t.mr.shade=0) (fun t ht=>hf t.mr ht) r h.2⟩
theorem bA.mkD(h:bA D)(x y:Int):bA (D.mkD x y):=by
 unfold Wd.mkD
 by_cases hE:D.mkE x y=0
 ·rw[if_pos hE]
  refine⟨h.1,fun t ht=> ?_⟩
  rcases List.mem_append.1 (show t∈D.ts++[_] from ht) with ht|ht
  ·exact h.2 t ht
  ·obtain rfl:=List.mem_singleton.1 ht
   exact⟨rfl,rfl⟩
 ·rw[if_neg hE]
  exact h
theorem bA.dye(h:bA D)(r:Int):bA (D.dye r):=h.mark r (fun m _=>⟨h.1,h.1⟩)
theorem bA.grow(h:bA D)(x y:Int):bA (D.grow x y):=by
 unfold Wd.grow
 split
 ·exact(h.mkD x y).dye _
 ·exact h
theorem bA.setP(h:bA D)(r:Int)(i:Nat)(x:Int):bA (D.setP r i x):=⟨h.1,iO (P:=fun t=>t.mr.count=0∧t.mr.shade=0) (g:=fun t=>{t with pt:=t.pt.set i x}) (fun t ht=>ht) r h.2⟩
theorem bA.tie(h:bA D)(r:Int)(i:Nat)(x:Int):bA ((D.setP r i x).up x):=(h.setP r i x).mark _ (fun m hm=>hm)
theorem ji{q:Int}{t:Th}:∀{l:List Th},aP q l=some t→t∈l
 |u::l,h=>by
  unfold aP at h
  split at h
  ·cases h
   simp
  ·exact List.mem_cons_of_mem _ (ji h)
theorem bA.dB(h:bA D)(hp:D'.parity=1)(ht:D'.ts=D.ts)(q:Int):D'.dB q=0:=by
 unfold Wd.dB
 cases hf:D'.find q with
 |none=>rfl
 |some t=>
  have hm:t∈D.ts:=by rw[←ht];exact ji hf
  simp only
  rw[if_neg (by rw[(h.2 t hm).2,hp];decide)]
end
def Rb(N k:Nat)(D:Wd):Prop:=bA D∧D.dD.length=k∧D.clean.length+k=N
theorem Iq(n:Nat)(hn:n<256)(a:Option Addr)(w:World)(hr:Recs w a [.int .i64,.int .i64] zK):
  Calls Tryz.prog 15 #[.int .u8 (n:Int),.slice a 2 2,.slice none 0 0] w fun e w'=>∃p v cv D,e=.returned (.tuple #[.pointer (some ⟨Pl.a p,0,none⟩),.slice v 2 cv,.bool true])∧RSt w p (gY (n%60+4)) D w'∧San D∧bA D:=by
 have hN:n%60+4≤63:=by omega
 refine(Hw (Rb (n%60+4)) n hn a 2 zK none 0 [] w (by decide) (by decide) hr (Recs.nil _ _ _) ⟨bA.new _ _,rfl,by simp[Wd.new]⟩ ?_ ?_).mono ?_
 ·intro k D x y hw _ hk hX
  have hxy:(x=1∨x=2)∧y=0∧k≤1:=by
   match k,hk with
   |0,hk=>simp[zK] at hk;exact⟨.inr hk.1.symm,hk.2.symm,by omega⟩
   |1,hk=>simp[zK] at hk;exact⟨.inl hk.1.symm,hk.2.symm,by omega⟩
   |k+2,hk=>simp[zK] at hk
  obtain⟨hx,rfl,hk1⟩:=hxy
  have h1:=hX.2.1
  have h2:=hX.2.2
  obtain⟨_,g1,g2⟩:=Qr (D:=D) hw (by omega) hx
  exact⟨hX.1.grow x 0,by omega,by omega⟩
 ·intro D r i x hX
  exact⟨hX.1.tie r i x,(congrArg List.length (kQ ((dw _ _).trans (kS r i x)))).trans hX.2.1,hX.2.2⟩
 ·rintro e w' ⟨p,lo,v,rfl,⟨D,h1,h2,_,h4,_,h6⟩,_⟩
  have e2:D.dD.length=2:=h6.2.1
  obtain⟨a9,c9,rfl,_⟩:=fK.oP h4
  rw[e2]
  exact⟨p,a9,c9,D,rfl,h1,h2.san,h6.1⟩
theorem wE{D:Wd}(h:D.phase≠1):D.bv=false:=by
 unfold Wd.bv
 rw[decide_eq_false h]
 rfl
def sU(h f:Nat)(u:Th):Nat:=if u.h<h then u.pt.length else if u.h=h then f else 0
def AJ(q:Int)(h f:Nat)(u:Th):Nat:=eG q (u.pt.take (sU h f u))
theorem rJ(q:Int):∀(l:List Int) {f:Nat},f<l.length→eG q (l.take (f+1))=eG q (l.take f)+if nth l f=q then 1 else 0
 |[],f,h=>by simp at h
 |a::l,0,_=>by simp[eG,nth]
 |a::l,f+1,h=>by
  have:=rJ q l (f:=f) (by simpa using h)
  have e:nth (a::l) (f+1)=nth l f:=rfl
  rw[e]
  simp only[List.take_succ_cons,eG]
  omega
theorem lQ{φ ψ:Th→Nat}{t:Th}{d:Nat}:∀{l:List Th},((aJ l).map Th.h).Nodup→t∈aJ l→ψ t=φ t+d→(∀u,u∈aJ l→u.h≠t.h→ψ u=φ u)→aj ψ l=aj φ l+d
 |[],_,h,_,_=>by simp[aJ] at h
 |u::l,hn,h,hd,ho=>by
  rw[aR,aR]
  rw[ax] at hn h ho
  cases hu:u.ended with
  |true=>
   rw[hu] at hn h ho
   simp at hn h ho ⊢
   exact lQ (φ:=φ) (ψ:=ψ) hn h hd ho
  |false=>
   rw[hu] at hn h ho
   simp at hn h ho ⊢
   rcases h with rfl|h
   ·have:aj ψ l=aj φ l:=df (fun v hv=>ho.2 v hv (fun e=>hn.1 v hv e))
    omega
   ·have h1:=lQ (φ:=φ) (ψ:=ψ) hn.2 h hd ho.2
    have h2:=ho.1 (fun e=>hn.1 t h e.symm)
    omega
section
variable {D D':Wd} {t u:Th} {N s h f:Nat} {q x r:Int}
theorem pQ(S:San D)(hs:u∈(D.aW x).live):∃v,v∈D.live∧u.h=v.h∧u.mr.count=v.mr.count:=by
 unfold Wd.aW at hs
 obtain⟨v,hv,e1,_,h2⟩:=bJ S hs
 exact⟨v,hv,e1,by rcases h2 with⟨_,h2⟩|⟨_,h2⟩<;>rw[h2]⟩
theorem uX(S:San D)(hs:u∈(D.done x).live):∃v,v∈D.live∧u.h=v.h∧((v.h:Int)+1=x∧u.mr.count=D.parity∨(v.h:Int)+1≠x∧u.mr.count=v.mr.count):=by
 unfold Wd.done at hs
 obtain⟨v,hv,e1,_,h2⟩:=bJ S hs
 exact⟨v,hv,e1,by
  rcases h2 with⟨h,h2⟩|⟨h,h2⟩
  ·exact .inl ⟨h,by rw[h2]⟩
  ·exact .inr ⟨h,by rw[h2]⟩⟩
structure CI (N s h f:Nat) (D:Wd):Prop where
 san:San D
 cu:D.cursor=(h:Int)
 fi:D.field=(f:Int)
 ph:D.phase=1
 n:D.n=N
 hN:h≤N
 ct:∀t,t∈D.live→(t.mr.count=D.parity↔t.h<h)
 fz:f=0∨∃t,t∈D.live∧t.h=h∧f≤t.pt.length
 sh:∀q t,D.find q=some t→D.dB q=((aj (AJ q h f) D.ts:Nat):Int)
 st:s=h+aj (sU h f) D.ts
 hlt:∀t,t∈D.live→t.h<N
 bd:N+aj (fun t=>t.pt.length) D.ts≤16*N
theorem San.sM(S:San D)(ht:t∈D.live)(hu:u∈D.live)(e:u.h=t.h):u=t:=by
 have h1:=S.findIt ht
 have h2:=S.findIt hu
 rw[e,h1] at h2
 exact(Option.some.inj h2).symm
theorem CI.skip(I:CI N s h f D)(hk:h<N)(hf:D.find ((h:Int)+1)=none):CI N (s+1) (h+1) 0 (D.move ((h:Int)+1) 0):=by
 have hno:∀u,u∈D.live→u.h≠h:=fun u hu e=>by
  have:=I.san.findIt hu
  rw[e,hf] at this
  cases this
 have f0:f=0:=by
  rcases I.fz with h0|⟨t,ht,e,_⟩
  ·exact h0
  ·exact absurd e (hno t ht)
 subst f0
 have hc:∀u,u∈aJ D.ts→sU (h+1) 0 u=sU h 0 u:=fun u hu=>by
  have:=hno u hu
  unfold sU
  by_cases h1:u.h<h
  ·rw[if_pos h1,if_pos (by omega)]
  ·rw[if_neg h1,if_neg (by omega)]
   split<;>first|rfl|(split<;>rfl)
 refine⟨I.san.move _ _,rfl,rfl,I.ph,I.n,hk,fun t ht=> ?_,.inl rfl,fun q t hq=> ?_,?_,I.hlt,I.bd⟩
 ·have:=hno t ht
  exact(I.ct t ht).trans (by omega)
 ·show D.dB q=((aj (AJ q (h+1) 0) D.ts:Nat):Int)
  rw[I.sh q t hq,df (φ:=AJ q (h+1) 0) (ψ:=AJ q h 0) (fun u hu=>by unfold AJ;rw[hc u hu])]
 ·show s+1=h+1+aj (sU (h+1) 0) D.ts
  rw[df hc]
  have:=I.st
  omega
theorem CI.deep(I:CI N s h f D)(hf:D.find ((h:Int)+1)=some t)(hff:f<t.pt.length):CI N (s+1) h (f+1) ((D.aW (nth t.pt f)).move (h:Int) ((f:Int)+1)):=by
 obtain⟨htl,e⟩:=find_live hf
 have e:t.h=h:=by omega
 have hch:∀u,u∈aJ D.ts→u.h≠t.h→sU h (f+1) u=sU h f u:=fun u hu hne=>by
  unfold sU
  split
  ·rfl
  ·rw[if_neg (by omega),if_neg (by omega)]
 have hct:sU h (f+1) t=sU h f t+1:=by
  unfold sU
  rw[if_neg (by omega),if_pos e,if_neg (by omega),if_pos e]
 have hm:∀φ:Th→Nat,(∀(t:Th) (m:Mrk),φ {t with mr:=m}=φ t)→aj φ (D.aW (nth t.pt f)).ts=aj φ D.ts:=fun φ hφ=>dQ _ (fun t=>hφ t _)
 refine⟨(I.san.aW _).move _ _,rfl,by show(f:Int)+1=_;omega,I.ph,I.n,I.hN,fun s hs=> ?_,?_,fun q v hq=> ?_,?_,fun s hs=> ?_,?_⟩
 ·obtain⟨v,hv,e1,e2⟩:=pQ I.san (show s∈(D.aW (nth t.pt f)).live from hs)
  rw[e1,e2]
  exact I.ct v hv
 ·refine .inr ?_
  have hfm:=find_mark (D:=D) (r:=nth t.pt f) (fun m=>{m with shade:=D.parity,shadow:=D.dB (nth t.pt f)+1}) ((h:Int)+1)
  rw[hf] at hfm
  simp only[Option.map_some] at hfm
  have hl:=(find_live hfm).1
  by_cases ha:t.at (nth t.pt f)=true
  ·rw[if_pos ha] at hl
   exact⟨_,hl,e,hff⟩
  ·rw[if_neg ha] at hl
   exact⟨_,hl,e,hff⟩
 ·show(D.aW (nth t.pt f)).dB q=((aj (AJ q h (f+1)) (D.aW (nth t.pt f)).ts:Nat):Int)
  have hq:(D.aW (nth t.pt f)).find q=some v:=hq
  rw[hm _ (fun _ _=>rfl)]
  have hs1:aj (AJ q h (f+1)) D.ts=aj (AJ q h f) D.ts+if nth t.pt f=q then 1 else 0:=by
   refine lQ (t:=t) I.san.nd htl ?_ (fun u hu hne=>by unfold AJ;rw[hch u hu hne])
   have:=rJ q t.pt hff
   have h1:sU h f t=f:=by unfold sU;rw[if_neg (by omega),if_pos e]
   unfold AJ
   rw[hct,h1,this]
  rw[hs1]
  have hfm:=find_mark (D:=D) (r:=nth t.pt f) (fun m=>{m with shade:=D.parity,shadow:=D.dB (nth t.pt f)+1}) q
  have hq2:(D.aW (nth t.pt f)).find q=(D.find q).map (fun u=>if u.at (nth t.pt f) then {u with mr:={u.mr with shade:=D.parity,shadow:=D.dB (nth t.pt f)+1}} else u):=hfm
  cases hv:D.find q with
  |none=>
   rw[hv] at hq2
   rw[hq2] at hq
   cases hq
  |some u=>
   rw[hv] at hq2
   simp only[Option.map_some] at hq2
   have hu:=find_live hv
   have h0:=I.sh q u hv
   have hat:(u.at (nth t.pt f)=true)↔nth t.pt f=q:=by
    have:=(dV (t:=u)).1 hu.1
    unfold Th.at
    rw[this.2]
    simp
    rw[hu.2]
    exact eq_comm
   by_cases ha:nth t.pt f=q
   ·rw[if_pos ha]
    rw[if_pos (hat.2 ha)] at hq2
    have:(D.aW (nth t.pt f)).dB q=D.dB (nth t.pt f)+1:=by
     show(match(D.aW (nth t.pt f)).find q with|none=>0|some t=>if t.mr.shade=D.parity then t.mr.shadow else 0)=_
     rw[hq2]
     simp
    rw[this,ha,h0]
    omega
   ·rw[if_neg ha]
    rw[if_neg (fun h=>ha (hat.1 h))] at hq2
    have:(D.aW (nth t.pt f)).dB q=D.dB q:=by
     show(match(D.aW (nth t.pt f)).find q with|none=>0|some t=>if t.mr.shade=D.parity then t.mr.shadow else 0)=(match D.find q with|none=>0|some t=>if t.mr.shade=D.parity then t.mr.shadow else 0)
     rw[hq2,hv]
    rw[this,h0]
    omega
 ·show s+1=h+aj (sU h (f+1)) (D.aW (nth t.pt f)).ts
  rw[hm _ (fun _ _=>rfl),lQ (φ:=sU h f) (t:=t) I.san.nd htl hct hch]
  have:=I.st
  omega
 ·obtain⟨v,hv,e1,_⟩:=pQ I.san (show s∈(D.aW (nth t.pt f)).live from hs)
  rw[e1]
  exact I.hlt v hv
 ·show N+aj _ (D.aW (nth t.pt f)).ts≤_
  rw[hm _ (fun _ _=>rfl)]
  exact I.bd
theorem CI.done(I:CI N s h f D)(hk:h<N)(hf:D.find ((h:Int)+1)=some t)(hff:¬f<t.pt.length):CI N (s+1) (h+1) 0 ((D.done ((h:Int)+1)).move ((h:Int)+1) 0):=by
 obtain⟨htl,e⟩:=find_live hf
 have e:t.h=h:=by omega
 have ef:f=t.pt.length:=by
  rcases I.fz with h0|⟨u,hu,e2,h2⟩
  ·omega
  ·rw[I.san.sM htl hu (by omega)] at h2
   omega
 have hch:∀u,u∈aJ D.ts→sU (h+1) 0 u=sU h f u:=fun u hu=>by
  unfold sU
  by_cases h1:u.h<h
  ·rw[if_pos h1,if_pos (by omega)]
  ·rw[if_neg h1]
   by_cases h2:u.h=h
   ·rw[if_pos h2,if_pos (by omega),I.san.sM htl hu (by omega),ef]
   ·rw[if_neg h2,if_neg (by omega)]
    split<;>rfl
 have hm:∀φ:Th→Nat,(∀(t:Th) (m:Mrk),φ {t with mr:=m}=φ t)→aj φ (D.done ((h:Int)+1)).ts=aj φ D.ts:=fun φ hφ=>dQ _ (fun t=>hφ t _)
 refine⟨(I.san.done _).move _ _,by show(h:Int)+1=_;omega,rfl,I.ph,I.n,hk,fun s hs=> ?_,.inl rfl,fun q v hq=> ?_,?_,fun s hs=> ?_,?_⟩
 ·obtain⟨v,hv,e1,h2⟩:=uX I.san (show s∈(D.done ((h:Int)+1)).live from hs)
  have h3:=I.ct v hv
  show s.mr.count=D.parity↔_
  rcases h2 with⟨k,h2⟩|⟨k,h2⟩
  ·rw[h2]
   exact⟨fun _=>by omega,fun _=>rfl⟩
  ·rw[h2,h3]
   omega
 ·show(D.done ((h:Int)+1)).dB q=((aj (AJ q (h+1) 0) (D.done ((h:Int)+1)).ts:Nat):Int)
  have hq:(D.done ((h:Int)+1)).find q=some v:=hq
  rw[hm _ (fun _ _=>rfl),df (φ:=AJ q (h+1) 0) (ψ:=AJ q h f) (fun u hu=>by unfold AJ;rw[hch u hu])]
  have hq2:(D.done ((h:Int)+1)).find q=(D.find q).map (fun u=>if u.at ((h:Int)+1) then {u with mr:={u.mr with count:=D.parity}} else u):=find_mark (D:=D) (r:=(h:Int)+1) (fun m=>{m with count:=D.parity}) q
  cases hv:D.find q with
  |none=>
   rw[hv] at hq2
   rw[hq2] at hq
   cases hq
  |some u=>
   rw[hv] at hq2
   simp only[Option.map_some] at hq2
   have:(D.done ((h:Int)+1)).dB q=D.dB q:=by
    show(match(D.done ((h:Int)+1)).find q with|none=>0|some t=>if t.mr.shade=D.parity then t.mr.shadow else 0)=(match D.find q with|none=>0|some t=>if t.mr.shade=D.parity then t.mr.shadow else 0)
    rw[hq2,hv]
    cases u.at ((h:Int)+1)<;>rfl
   rw[this]
   exact I.sh q u hv
 ·show s+1=h+1+aj (sU (h+1) 0) (D.done ((h:Int)+1)).ts
  rw[hm _ (fun _ _=>rfl),df hch]
  have:=I.st
  omega
 ·obtain⟨v,hv,e1,_⟩:=uX I.san (show s∈(D.done ((h:Int)+1)).live from hs)
  rw[e1]
  exact I.hlt v hv
 ·show N+aj _ (D.done ((h:Int)+1)).ts≤_
  rw[hm _ (fun _ _=>rfl)]
  exact I.bd
theorem CI.tally(I:CI N s h f D)(hk:h<N):∃h' f',CI N (s+1) h' f' D.tally:=by
 have e:D.bv=true:=by
  unfold Wd.bv
  rw[I.ph,I.cu,I.n]
  simp[hk]
 unfold Wd.tally
 rw[e,if_pos rfl,I.cu]
 cases hf:D.find ((h:Int)+1) with
 |none=>
  unfold Wd.dP
  simp only
  rw[I.cu]
  exact⟨_,_,I.skip hk hf⟩
 |some t=>
  obtain⟨htl,e2⟩:=find_live hf
  unfold Wd.dP
  simp only
  rw[if_neg (fun hc=>by have:=(I.ct t htl).1 hc;omega),I.cu,I.fi]
  by_cases hff:f<t.pt.length
  ·rw[if_pos (by omega)]
   exact⟨_,_,I.deep hf hff⟩
  ·rw[if_neg (by omega)]
   exact⟨_,_,I.done hk hf hff⟩
theorem CI.tb(I:CI N s h f D):D.bv=decide (h<N):=by
 unfold Wd.bv
 rw[I.ph,I.cu,I.n]
 simp
theorem CI.le(I:CI N s h f D):s≤16*N:=by
 have h1:aj (sU h f) D.ts≤aj (fun t=>t.pt.length) D.ts:=qX (fun u hu=>by
  unfold sU
  split
  ·exact Nat.le_refl _
  ·split
   ·rename_i e
    rcases I.fz with h0|⟨t,ht,e2,h2⟩
    ·omega
    ·rw[I.san.sM ht hu (by omega)]
     exact h2
   ·omega)
 have:=I.st
 have:=I.bd
 have:=I.hN
 omega
theorem CI.JM(I:CI N s h f D)(hk:¬h<N)(hf:D.find q=some t):D.dB q=((Lg (fG q) D N:Nat):Int)∧D.counted q 0=true:=by
 obtain⟨htl,e⟩:=find_live hf
 have hh:h=N:=by have:=I.hN;omega
 constructor
 ·rw[I.sh q t hf,Li I.san I.hlt,df (φ:=AJ q h f) (ψ:=fG q) (fun u hu=> ?_)]
  have:=I.hlt u hu
  unfold AJ fG sU
  rw[if_pos (by omega),List.take_length]
 ·have h1:=(I.ct t htl).2 (by have:=I.hlt t htl;omega)
  unfold Wd.counted
  rw[hf]
  simp[h1]
end
def pq(P C F:Int)(u:Th):Nat:=if u.mr.count=P then u.pt.length else if(u.h:Int)=C then F.toNat else 0
def jl(P C F q:Int)(u:Th):Nat:=eG q (u.pt.take (pq P C F u))
def Wd.ph(D:Wd)(q:Int):Th→Nat:=jl D.parity D.cursor D.field q
def sv(P:Int)(m:Mrk):Int:=if m.shade=P then m.shadow else 0
structure fu (E:Int→Prop) (D:Wd):Prop where
 sh:∀s,s∈D.live→¬E ((s.h:Int)+1)→s.mr.dead=false→s.mr.color≠D.parity→sv D.parity s.mr=((aj (D.ph ((s.h:Int)+1)) D.ts:Nat):Int)
 ct:∀s,s∈D.live→(s.h:Int)<D.cursor→s.mr.count=D.parity
def lX(D D':Wd):Prop:=D'.parity=D.parity∧D'.cursor=D.cursor∧D'.field=D.field∧D'.phase=D.phase
theorem lX.refl(D:Wd):lX D D:=⟨rfl,rfl,rfl,rfl⟩
theorem lX.trans{D D' D2:Wd}(h:lX D D')(k:lX D' D2):lX D D2:=⟨k.1.trans h.1,k.2.1.trans h.2.1,k.2.2.1.trans h.2.2.1,k.2.2.2.trans h.2.2.2⟩
theorem mh(q x:Int):∀(l:List Int) (i m:Nat),i<l.length→eG q ((l.set i x).take m)+(if i<m∧nth l i=q then 1 else 0)=eG q (l.take m)+(if i<m∧x=q then 1 else 0)
 |[],i,m,h=>by simp at h
 |a::l,0,0,_=>by simp
 |a::l,0,m+1,_=>by
  have e:nth (a::l) 0=a:=rfl
  rw[e]
  simp only[List.set_cons_zero,List.take_succ_cons,eG,Nat.zero_lt_succ,true_and]
  omega
 |a::l,i+1,0,_=>by simp
 |a::l,i+1,m+1,h=>by
  have:=mh q x l i m (by simpa using h)
  have e:nth (a::l) (i+1)=nth l i:=rfl
  rw[e]
  simp only[List.set_cons_succ,List.take_succ_cons,eG,Nat.add_lt_add_iff_right]
  omega
section
variable {D D':Wd} {E E':Int→Prop} {t s u:Th} {r x y q:Int} {g:Th→Th} {P C F:Int}
theorem Nh{i:Nat}(hi:i<t.pt.length)(h:q≠x∧q≠nth t.pt i):jl P C F q {t with pt:=t.pt.set i x}=jl P C F q t:=by
 have e:pq P C F {t with pt:=t.pt.set i x}=pq P C F t:=by unfold pq;simp
 have:=mh q x t.pt i (pq P C F t) hi
 rw[if_neg (fun hh=>h.2 hh.2.symm),if_neg (fun hh=>h.1 hh.2.symm)] at this
 unfold jl
 rw[e]
 exact this
theorem pX{m:Mrk}(h:m.count=t.mr.count):jl P C F q {t with mr:=m}=jl P C F q t:=by
 unfold jl pq
 rw[show({t with mr:=m}:Th).mr.count=t.mr.count from h]
theorem Pi{v:Th}(h:v.mr.count=t.mr.count)(h2:v.h=t.h)(h3:v.pt=t.pt):jl P C F q v=jl P C F q t:=by
 unfold jl pq
 rw[h,h2,h3]
theorem EH(h:lX D D'):D'.ph q=D.ph q:=by unfold Wd.ph;rw[h.1,h.2.1,h.2.2.1]
theorem fu.mono(H:fu E D)(h:∀q,E q→E' q):fu E' D:=⟨fun s hs he=>H.sh s hs (fun e=>he (h _ e)),H.ct⟩
theorem fu.same(H:fu E D)(h:D'.ts=D.ts)(k:lX D D'):fu E D':=by
 have hl:D'.live=D.live:=by unfold Wd.live;rw[h]
 refine⟨fun s hs he hd hc=> ?_,fun s hs hc=> ?_⟩
 ·rw[hl] at hs
  rw[k.1] at hc ⊢
  rw[EH k,h]
  exact H.sh s hs he hd hc
 ·rw[hl] at hs
  rw[k.2.1] at hc
  rw[k.1]
  exact H.ct s hs hc
theorem fu.upd(H:fu E D)(S:San D)(hf:D.find r=some t)(hts:D'.ts=bE r g D.ts)(k:lX D D')(he:(g t).ended=false)(hh:(g t).h=t.h)
  (hp:∀q,q≠0→¬E' q→D.ph q (g t)=D.ph q t) (hc:t.mr.count=D.parity→(g t).mr.count=D.parity)
  (hs:¬E' ((t.h:Int)+1)→(g t).mr.dead=false→(g t).mr.color≠D.parity→¬E ((t.h:Int)+1)∧t.mr.dead=false∧t.mr.color≠D.parity∧sv D.parity (g t).mr=sv D.parity t.mr)
  (hE:∀q,E q→E' q):fu E' D':=by
 have htl:=(find_live hf).1
 have hm:∀s,s∈D'.live→s=g t∨(s∈D.live∧s.h≠t.h):=fun s h=>by
  unfold Wd.live at h
  rw[hts] at h
  exact aQ S.nd hf h
 have hsum:∀q,q≠0→¬E' q→aj (D'.ph q) D'.ts=aj (D.ph q) D.ts:=fun q h0 h1=>by
  rw[EH k,hts]
  have h2:=gz (φ:=D.ph q) hf he
  rw[hp q h0 h1] at h2
  omega
 refine⟨fun s h h1 h2 h3=> ?_,fun s h h1=> ?_⟩
 ·rw[hsum _ (by omega) h1]
  rw[k.1] at h3 ⊢
  rcases hm s h with rfl|⟨h4,_⟩
  ·rw[hh] at h1 ⊢
   obtain⟨k1,k2,k3,k4⟩:=hs h1 h2 h3
   rw[k4]
   exact H.sh t htl k1 k2 k3
  ·exact H.sh s h4 (fun e=>h1 (hE _ e)) h2 h3
 ·rw[k.2.1] at h1
  rw[k.1]
  rcases hm s h with rfl|⟨h4,_⟩
  ·rw[hh] at h1
   exact hc (H.ct t htl h1)
  ·exact H.ct s h4 h1
theorem fu.mark(H:fu E D)(S:San D)(r:Int){f:Mrk→Mrk}(hc:∀m,(f m).count=m.count)(hs:∀m,(f m).dead=false→(f m).color≠D.parity→m.dead=false∧m.color≠D.parity∧sv D.parity (f m)=sv D.parity m):fu E (D.mark r f):=by
 cases hf:D.find r with
 |none=>rw[bH f hf];exact H
 |some t=>
  refine H.upd (E':=E) (g:=fun t=>{t with mr:=f t.mr}) S hf rfl ⟨rfl,rfl,rfl,rfl⟩ (find_at hf).2.1 rfl (fun q _ _=>pX (hc _)) (fun h=>(hc _).trans h) (fun h1 h2 h3=> ?_) (fun _ h=>h)
  obtain⟨k1,k2,k3⟩:=hs t.mr h2 h3
  exact⟨h1,k1,k2,k3⟩
theorem eZ(r:Int):lX D (D.touch r):=by
 unfold Wd.touch
 split<;>exact⟨rfl,rfl,rfl,rfl⟩
theorem fu.paint(H:fu E D)(S:San D)(r:Int):fu E (D.paint r):=H.mark S r (f:=fun m=>{m with color:=D.parity}) (fun _=>rfl) (fun m _ h=>absurd rfl h)
theorem fu.touch(H:fu E D)(S:San D)(r:Int):fu E (D.touch r):=by
 unfold Wd.touch
 split
 ·exact(H.paint S r).same rfl ⟨rfl,rfl,rfl,rfl⟩
 ·exact H
theorem fu.PU(H:fu (fun q=>E q∨q=r) D)(S:San D)(hp:D.phase≠0):fu E (D.touch r):=by
 cases ht:D.toucht r with
 |true=>
  have H2:fu E (D.paint r):=by
   cases hf:D.find r with
   |none=>unfold Wd.toucht at ht;rw[hf] at ht;cases ht
   |some t=>
    obtain⟨htl,e⟩:=find_live hf
    have hm:∀s,s∈(D.paint r).live→s={t with mr:={t.mr with color:=D.parity}}∨(s∈D.live∧s.h≠t.h):=fun s h=>aQ (g:=fun t=>{t with mr:={t.mr with color:=D.parity}}) S.nd hf h
    have hsum:∀q,aj ((D.paint r).ph q) (D.paint r).ts=aj (D.ph q) D.ts:=fun q=>dQ (φ:=D.ph q) r (fun t=>pX rfl)
    refine⟨fun s h h1 h2 h3=> ?_,fun s h h1=> ?_⟩
    ·rcases hm s h with rfl|⟨h4,h5⟩
     ·exact absurd rfl h3
     ·rw[hsum]
      exact H.sh s h4 (fun h6=>by rcases h6 with h6|h6;exact h1 h6;omega) h2 h3
    ·rcases hm s h with rfl|⟨h4,_⟩
     ·exact H.ct t htl h1
     ·exact H.ct s h4 h1
  unfold Wd.touch
  rw[ht,if_pos rfl]
  exact H2.same rfl ⟨rfl,rfl,rfl,rfl⟩
 |false=>
  have e:D.touch r=D:=by unfold Wd.touch;rw[ht];rfl
  rw[e]
  refine⟨fun s h h1 h2 h3=> ?_,H.ct⟩
  by_cases h5:(s.h:Int)+1=r
  ·exfalso
   have:=S.findIt h
   rw[h5] at this
   unfold Wd.toucht at ht
   rw[this] at ht
   simp only[h2,Bool.not_false,Bool.and_true] at ht
   simp[hp,h3] at ht
  ·exact H.sh s h (fun h6=>by rcases h6 with h6|h6;exact h1 h6;exact h5 h6) h2 h3
theorem fu.bury(H:fu E D)(S:San D)(x:Int):fu E (D.bury x):=by
 unfold Wd.bury
 cases hf:D.find x with
 |none=>exact H
 |some t=>
  simp only
  split
  ·exact H
  ·exact H.upd (E':=E) (g:=fun s=>{s with mr:={s.mr with dead:=true,left:=(t.pt.length:Int),leaves:=(t.lv.length:Int)}}) S hf (gK x t) ⟨rfl,rfl,rfl,rfl⟩ (find_at hf).2.1 rfl (fun q _ _=>pX rfl) (fun h=>h) (fun _ h2 _=>by cases h2) (fun _ h=>h)
theorem JB(x:Int):lX D (D.bury x):=by
 unfold Wd.bury
 split
 ·exact lX.refl D
 ·split
  ·exact lX.refl D
  ·exact⟨rfl,rfl,rfl,rfl⟩
theorem fu.inter(H:fu E D)(S:San D)(x:Int):fu E (D.inter x):=by
 unfold Wd.inter
 split
 ·exact H.bury S x
 ·exact H
theorem yz(x:Int):lX D (D.inter x):=by
 unfold Wd.inter
 split
 ·exact JB x
 ·exact lX.refl D
theorem fu.less(H:fu E D)(S:San D)(r:Int):fu E (D.less r):=
 fu.inter (D:=(D.down r).sus) ((H.mark S r (f:=fun m=>{m with refs:=m.refs-1}) (fun _=>rfl) (fun m h1 h2=>⟨h1,h2,rfl⟩)).same rfl ⟨rfl,rfl,rfl,rfl⟩) (S.down r).sus r
theorem iJ(r:Int):lX D (D.less r):=lX.trans (D':=(D.down r).sus) ⟨rfl,rfl,rfl,rfl⟩ (yz r)
theorem fu.up(H:fu E D)(S:San D)(r:Int):fu E (D.up r):=H.mark S r (f:=fun m=>{m with refs:=m.refs+1}) (fun _=>rfl) (fun m h1 h2=>⟨h1,h2,rfl⟩)
theorem fu.more(H:fu E D)(S:San D)(r:Int):fu E (D.more r):=(H.up S r).touch (S.up r) r
theorem eU(r:Int):lX D (D.more r):=lX.trans (D':=D.up r) ⟨rfl,rfl,rfl,rfl⟩ (eZ r)
theorem fu.setP(H:fu E D)(S:San D)(hf:D.find r=some t){i:Nat}(hi:i<t.pt.length)(x:Int)(hE:∀q,E q→E' q)(hX:∀q,q≠0→q=x∨q=nth t.pt i→E' q):fu E' (D.setP r i x):=
 H.upd (E':=E') (g:=fun t=>{t with pt:=t.pt.set i x}) S hf rfl ⟨rfl,rfl,rfl,rfl⟩ (find_at hf).2.1 rfl (fun q h0 h1=>Nh hi ⟨fun e=>h1 (hX q h0 (.inl e)),fun e=>h1 (hX q h0 (.inr e))⟩) (fun h=>h) (fun h1 h2 h3=>⟨fun e=>h1 (hE _ e),h2,h3,rfl⟩) hE
theorem fu.strong(H:fu (fun q=>E q∨q=x) D)(h:∀s,s∈D.live→(s.h:Int)+1=x→¬E x→s.mr.dead=false→s.mr.color≠D.parity→sv D.parity s.mr=((aj (D.ph x) D.ts:Nat):Int)):fu E D:=by
 refine⟨fun s hs h1 h2 h3=> ?_,H.ct⟩
 by_cases e:(s.h:Int)+1=x
 ·rw[e] at h1 ⊢
  exact h s hs e h1 h2 h3
 ·exact H.sh s hs (fun h6=>by rcases h6 with h6|h6;exact h1 h6;exact e h6) h2 h3
theorem sV(q:Int):∀(l:List Int) (m:Nat),eG q (l.take m)≤eG q l
 |[],m=>by simp
 |a::l,0=>by simp[eG]
 |a::l,m+1=>by
  have:=sV q l m
  simp only[List.take_succ_cons,eG]
  omega
theorem qK(hq:q≠0)(h:∀i,nth t.pt i=0):jl P C F q t=0:=by
 have h1:=sV q t.pt (pq P C F t)
 have h2:eG q t.pt=0:=rH (fun i _=>by rw[h i];exact fun e=>hq e.symm)
 unfold jl
 omega
variable {hold:Nat→Nat}
theorem fu.drain(H:fu E D)(S:San D)(N:dX hold D)(hp:D.phase=1∨D.phase=2∧∀u,u∈D.live→u.mr.count=D.parity)(hF:0≤D.field)(hf:D.find r=some t)(hd:t.mr.dead=true){i:Nat}(hi:i<t.pt.length):fu E (D.drain r i (nth t.pt i)):=by
 have S1:=S.setP hf i (x:=0) (fun _=>rfl)
 have H1:fu (fun q=>E q∨q=nth t.pt i) (D.setP r i 0):=H.setP S hf hi 0 (fun q h=>.inl h) (fun q h0 h=>h.elim (fun h=>absurd h h0) .inr)
 have N1:=N.clear S hf hi
 obtain⟨htl,hr⟩:=find_live hf
 have hsum:nth t.pt i≠0→aj (D.ph (nth t.pt i)) (D.setP r i 0).ts+(if i<pq D.parity D.cursor D.field t then 1 else 0)=aj (D.ph (nth t.pt i)) D.ts:=fun h0=>by
  have h1:=oU (φ:=D.ph (nth t.pt i)) hf i 0
  have h2:=mh (nth t.pt i) 0 t.pt i (pq D.parity D.cursor D.field t) hi
  rw[if_neg (show ¬(i<pq D.parity D.cursor D.field t∧(0:Int)=nth t.pt i) from fun h=>h0 h.2.symm)] at h2
  have e1:D.ph (nth t.pt i) {t with pt:=t.pt.set i 0}=eG (nth t.pt i) ((t.pt.set i 0).take (pq D.parity D.cursor D.field t)):=by
   unfold Wd.ph jl
   rw[show pq D.parity D.cursor D.field {t with pt:=t.pt.set i 0}=pq D.parity D.cursor D.field t by unfold pq;simp]
  have e2:D.ph (nth t.pt i) t=eG (nth t.pt i) (t.pt.take (pq D.parity D.cursor D.field t)):=rfl
  simp only[and_true] at h2
  omega
 have hX:∀u,u∈(D.setP r i 0).live→(u.h:Int)+1=nth t.pt i→¬E (nth t.pt i)→u.mr.dead=false→u.mr.color≠D.parity→sv D.parity u.mr=((aj (D.ph (nth t.pt i)) (D.setP r i 0).ts+(if i<pq D.parity D.cursor D.field t then 1 else 0):Nat):Int):=fun u hu e h1 h2 h3=>by
  rcases aQ (g:=fun t=>{t with pt:=t.pt.set i 0}) S.nd hf hu with rfl|⟨h4,_⟩
  ·have h2:t.mr.dead=false:=h2
   rw[hd] at h2
   cases h2
  ·rw[hsum (by omega)]
   have:=H.sh u h4 (by rw[e];exact h1) h2 h3
   rw[e] at this
   exact this
 have hcnt:(D.setP r i 0).counted r i=decide (i<pq D.parity D.cursor D.field t):=by
  have hf1:(D.setP r i 0).find r=some {t with pt:=t.pt.set i 0}:=by rw[oQ,hf];simp[find_at_r hf]
  unfold Wd.counted
  rw[hf1]
  show(decide ((0:Int)≤(i:Int))&&(decide (t.mr.count=D.parity)||(decide (D.phase=1)&&decide (D.cursor=r-1)&&decide ((i:Int)<D.field))))=_
  rw[decide_eq_true (show(0:Int)≤(i:Int) by omega)]
  unfold pq
  by_cases hc:t.mr.count=D.parity
  ·rw[if_pos hc,decide_eq_true hc,decide_eq_true hi]
   rfl
  ·rw[if_neg hc,decide_eq_false hc,show D.phase=1 from hp.elim id (fun h=>absurd (h.2 t htl) hc)]
   by_cases h2:(t.h:Int)=D.cursor
   ·rw[if_pos h2,decide_eq_true (show D.cursor=r-1 by omega)]
    simp
   ·rw[if_neg h2,decide_eq_false (show ¬D.cursor=r-1 by omega)]
    simp
 generalize nth t.pt i=x at*
 generalize pq D.parity D.cursor D.field t=m at*
 unfold Wd.drain
 by_cases hc:(D.setP r i 0).cnt x=0
 ·rw[if_pos hc]
  refine H1.strong (fun s hs e _ _ _=> ?_)
  have h1:=N1.cnt s hs
  rw[if_pos e] at h1
  have h2:=S1.findIt hs
  rw[e] at h2
  unfold Wd.cnt at hc
  rw[h2] at hc
  simp only at hc
  omega
 ·rw[if_neg hc]
  have key:∀D2:Wd,San D2→fu E D2→fu E ((D2.down x).inter x):=fun D2 S2 H2=>(H2.mark S2 x (f:=fun m=>{m with refs:=m.refs-1}) (fun _=>rfl) (fun m h1 h2=>⟨h1,h2,rfl⟩)).inter (S2.down x) x
  have K:San (if(D.setP r i 0).counted r i then(D.setP r i 0).ah x else D.setP r i 0)∧fu E (if(D.setP r i 0).counted r i then(D.setP r i 0).ah x else D.setP r i 0):=by
   rw[hcnt]
   have hsv:∀u,u∈(D.setP r i 0).live→(u.h:Int)+1=x→(D.setP r i 0).dB x=sv D.parity u.mr:=fun u hu e=>by
    have:=S1.findIt hu
    rw[e] at this
    unfold Wd.dB
    rw[this]
    rfl
   by_cases him:i<m
   ·rw[decide_eq_true him,if_pos rfl]
    refine⟨S1.ah x,?_⟩
    rw[if_pos him] at hX
    unfold Wd.ah
    cases hl:(D.setP r i 0).lighter x with
    |true=>
     rw[if_pos rfl]
     have hsm:aj (((D.setP r i 0).mark x (fun m=>{m with shadow:=m.shadow-1})).ph x) ((D.setP r i 0).mark x (fun m=>{m with shadow:=m.shadow-1})).ts=aj (D.ph x) (D.setP r i 0).ts:=dQ (φ:=D.ph x) x (fun t=>pX rfl)
     cases hfx:(D.setP r i 0).find x with
     |none=>
      rw[bH _ hfx]
      refine H1.strong (fun s hs e _ _ _=> ?_)
      have:=S1.findIt hs
      rw[e,hfx] at this
      cases this
     |some u=>
      have H2:fu (fun q=>E q∨q=x) ((D.setP r i 0).mark x (fun m=>{m with shadow:=m.shadow-1})):=H1.upd (E':=fun q=>E q∨q=x) (g:=fun t=>{t with mr:={t.mr with shadow:=t.mr.shadow-1}}) S1 hfx rfl ⟨rfl,rfl,rfl,rfl⟩ (find_at hfx).2.1 rfl (fun q _ _=>pX rfl) (fun h=>h) (fun h1 _ _=>absurd (.inr (find_live hfx).2) h1) (fun _ h=>h)
      refine H2.strong (fun s hs e h1 h2 h3=> ?_)
      rw[hsm]
      obtain⟨v,hv,e1,_,hm⟩:=bJ S1 hs
      rcases hm with⟨k1,k2⟩|⟨k1,_⟩
      ·have h4:=hX v hv k1 h1 (by rw[k2] at h2;exact h2) (by rw[k2] at h3;exact h3)
       have h5:=hsv v hv k1
       have h6:(D.setP r i 0).dB x≠0:=by
        unfold Wd.lighter at hl
        simp at hl
        exact hl.2
       rw[k2]
       show sv D.parity {v.mr with shadow:=v.mr.shadow-1}=_
       rw[h5] at h6
       unfold sv at h4 h6 ⊢
       show(if v.mr.shade=D.parity then v.mr.shadow-1 else 0)=_
       by_cases h7:v.mr.shade=D.parity
       ·rw[if_pos h7] at h4 h6 ⊢
        omega
       ·rw[if_neg h7] at h6
        exact absurd rfl h6
      ·exact absurd (by omega) k1
    |false=>
     rw[if_neg (by decide)]
     refine H1.strong (fun s hs e h1 h2 h3=> ?_)
     exfalso
     have h4:=hX s hs e h1 h2 h3
     have h5:=hsv s hs e
     have h6:(D.setP r i 0).fM x=false:=by
      have:=S1.findIt hs
      rw[e] at this
      unfold Wd.fM
      rw[this]
      exact decide_eq_false h3
     unfold Wd.lighter at hl
     rw[h6,h5,h4,show(D.setP r i 0).phase=D.phase from rfl] at hl
     rcases hp with hp|⟨hp,_⟩<;>(rw[hp] at hl;simp at hl;omega)
   ·rw[decide_eq_false him,if_neg (by decide)]
    rw[if_neg him] at hX
    exact⟨S1,H1.strong (fun s hs e h1 h2 h3=>hX s hs e h1 h2 h3)⟩
  exact key _ K.1 K.2
theorem BP(x:Int):lX D (D.ah x):=by
 unfold Wd.ah
 split<;>exact⟨rfl,rfl,rfl,rfl⟩
theorem GX(r:Int)(i:Nat)(x:Int):lX D (D.drain r i x):=by
 have key:∀D2:Wd,lX D D2→lX D ((D2.down x).inter x):=fun D2 h=>(h.trans (D2:=D2.down x) ⟨rfl,rfl,rfl,rfl⟩).trans (yz x)
 unfold Wd.drain
 by_cases hc:(D.setP r i 0).cnt x=0
 ·rw[if_pos hc]
  exact⟨rfl,rfl,rfl,rfl⟩
 ·rw[if_neg hc]
  refine key _ ?_
  split
  ·exact lX.trans (D':=D.setP r i 0) ⟨rfl,rfl,rfl,rfl⟩ (BP x)
  ·exact⟨rfl,rfl,rfl,rfl⟩
theorem jr:lX D D.step:=by
 unfold Wd.step
 split
 ·exact lX.refl D
 ·split
  ·exact lX.refl D
  ·unfold Wd.work
   split
   ·exact(GX _ _ _).trans ⟨rfl,rfl,rfl,rfl⟩
   ·split<;>exact⟨rfl,rfl,rfl,rfl⟩
theorem fu.step(H:fu E D)(S:San D)(N:dX hold D)(hp:D.phase=1∨D.phase=2∧∀u,u∈D.live→u.mr.count=D.parity)(hF:0≤D.field):fu E D.step:=by
 cases hg:D.grave with
 |nil=>rw[show D.step=D by unfold Wd.step;rw[hg]];exact H
 |cons q rest=>
  obtain⟨t,htl,e,hf,hd,d,es⟩:=S.head hg
  rw[es]
  unfold Wd.work
  have hw:=S.w
  by_cases ha:D.ahead t.mr.leaves<t.mr.left
  ·have h0:0≤D.ahead t.mr.leaves:=by
    unfold Wd.ahead
    refine Int.mul_nonneg ?_ (by omega)
    split<;>omega
   rw[if_pos ha]
   have hi:(t.mr.left-1).toNat<t.pt.length:=by have:=d.f1;omega
   exact(H.drain S N hp hF hf hd hi).mark (S.drain hf _ _) _ (fun _=>rfl) (fun m h1 h2=>⟨h1,h2,rfl⟩)
  ·rw[if_neg ha]
   by_cases hl:0<t.mr.leaves
   ·rw[if_pos hl]
    exact H.upd (E':=E) (g:=fun s=>{s with lv:=s.lv.set (t.mr.leaves-1).toNat (-1),mr:={s.mr with leaves:=t.mr.leaves-1}}) S hf (fV _ _ _ _) ⟨rfl,rfl,rfl,rfl⟩ (find_at hf).2.1 rfl (fun q _ _=>Pi rfl rfl rfl) (fun h=>h) (fun h1 h2 h3=>⟨h1,h2,h3,rfl⟩) (fun _ h=>h)
   ·rw[if_neg hl]
    have hlive:({({D with grave:=rest}:Wd).gH (q:Int) t.h with pending:=D.pending-1}:Wd).live=D.live.filter (fun s=>s.h !=t.h):=dn (g:=fun s=>{s with ended:=true}) (fun _=>rfl) S.nd hf
    have h0:0≤D.ahead t.mr.leaves:=by
     unfold Wd.ahead
     refine Int.mul_nonneg ?_ (by omega)
     split<;>omega
    have hl0:t.mr.leaves=0:=by have:=d.l0;omega
    have hlf:t.mr.left≤0:=by
     rw[hl0] at ha
     unfold Wd.ahead at ha
     rw[if_neg (by omega)] at ha
     omega
    have hz:∀i,nth t.pt i=0:=fun i=>d.zero i (by omega)
    have hsum:∀y:Int,y≠0→aj (D.ph y) (bE (q:Int) (fun s=>{s with ended:=true}) D.ts)=aj (D.ph y) D.ts:=fun y hy=>by
     have h1:=qW (φ:=D.ph y) (g:=fun s=>{s with ended:=true}) hf rfl
     have h2:D.ph y t=0:=qK hy hz
     omega
    refine⟨fun s hs h1 h2 h3=> ?_,fun s hs h1=> ?_⟩
    ·rw[hlive] at hs
     show sv D.parity s.mr=((aj (D.ph ((s.h:Int)+1)) (bE (q:Int) (fun s=>{s with ended:=true}) D.ts):Nat):Int)
     rw[hsum _ (by omega)]
     exact H.sh s (List.mem_filter.1 hs).1 h1 h2 h3
    ·rw[hlive] at hs
     exact H.ct s (List.mem_filter.1 hs).1 h1
theorem fu.born{N:Nat}(H:fu E D)(S:San D)(B:BornOk D x y N):fu E (D.born x y):=by
 unfold Wd.born
 by_cases hE:D.mkE x y=0
 ·rw[if_pos hE]
  obtain⟨t,hf,et,em⟩:=B.new hE
  have hfr:=B.fresh hE
  have S1:=B.san S
  have eR:D.mkR x y=(D.mkB:Int)+1:=by unfold Wd.mkR;rw[if_pos hE]
  have eD:D.mkD x y=D.made D.mkB (D.clean.tail.take (D.mkN x y)) (D.clean.tail.drop (D.mkN x y)) x.toNat y.toNat:=by unfold Wd.mkD;rw[if_pos hE]
  have hlv:(D.mkD x y).live=D.live++[⟨D.mkB,ints (D.clean.tail.take (D.mkN x y)),zer x.toNat,zer y.toNat,false,Mrk.new⟩]:=by rw[eD,live_made]
  have hsm0:lX D (D.mkD x y):=by rw[eD];exact⟨rfl,rfl,rfl,rfl⟩
  have hts:(D.mkD x y).ts=D.ts++[⟨D.mkB,ints (D.clean.tail.take (D.mkN x y)),zer x.toNat,zer y.toNat,false,Mrk.new⟩]:=by rw[eD];rfl
  have htz:∀i,nth t.pt i=0:=by
   have:=(find_live hf).1
   rw[hlv] at this
   rcases List.mem_append.1 this with h|h
   ·exact absurd et (hfr t h)
   ·obtain rfl:=List.mem_singleton.1 h
    exact fun i=>qF _ i
  have hsum:∀q,q≠0→aj (D.ph q) ((D.mkD x y).dye (D.mkR x y)).ts=aj (D.ph q) D.ts:=fun q hq=>by
   have h1:=gz (φ:=D.ph q) (g:=fun t=>{t with mr:={t.mr with color:=(D.mkD x y).parity,count:=(D.mkD x y).parity,shade:=(D.mkD x y).parity,shadow:=0}}) hf (find_at hf).2.1
   have h2:D.ph q t=0:=qK hq htz
   have h3:D.ph q {t with mr:={t.mr with color:=(D.mkD x y).parity,count:=(D.mkD x y).parity,shade:=(D.mkD x y).parity,shadow:=0}}=0:=qK hq htz
   have h4:aj (D.ph q) (D.mkD x y).ts=aj (D.ph q) D.ts:=by
    rw[hts,kT]
    have h5:D.ph q ⟨D.mkB,ints (D.clean.tail.take (D.mkN x y)),zer x.toNat,zer y.toNat,false,Mrk.new⟩=0:=qK hq (fun i=>qF _ i)
    rw[aR]
    simp only[h5]
    simp[aj,aJ]
   have h6:((D.mkD x y).dye (D.mkR x y)).ts=bE (D.mkR x y) (fun t=>{t with mr:={t.mr with color:=(D.mkD x y).parity,count:=(D.mkD x y).parity,shade:=(D.mkD x y).parity,shadow:=0}}) (D.mkD x y).ts:=rfl
   rw[h6]
   omega
  have hsm:lX D ((D.mkD x y).dye (D.mkR x y)):=hsm0.trans ⟨rfl,rfl,rfl,rfl⟩
  have hm:∀s,s∈((D.mkD x y).dye (D.mkR x y)).live→(s.mr.color=D.parity∧s.mr.count=D.parity)∨∃v,v∈D.live∧s.h=v.h∧s.mr=v.mr:=fun s hs=>by
   obtain⟨v,hv,e1,_,h⟩:=bJ S1 hs
   rcases h with⟨k1,k2⟩|⟨k1,k2⟩
   ·rw[k2]
    exact .inl ⟨hsm0.1,hsm0.1⟩
   ·rw[hlv] at hv
    rcases List.mem_append.1 hv with h|h
    ·exact .inr ⟨v,h,e1,k2⟩
    ·obtain rfl:=List.mem_singleton.1 h
     exact absurd eR.symm k1
  have H1:fu E ((D.mkD x y).dye (D.mkR x y)):=by
   refine⟨fun s hs h1 h2 h3=> ?_,fun s hs h1=> ?_⟩
   ·rw[EH hsm,hsum _ (by omega)]
    rw[hsm.1] at h3 ⊢
    rcases hm s hs with⟨k1,_⟩|⟨v,hv,e1,e2⟩
    ·exact absurd k1 h3
    ·rw[e2] at h2 h3 ⊢
     rw[e1] at h1 ⊢
     exact H.sh v hv h1 h2 h3
   ·rw[hsm.1]
    rw[hsm.2.1] at h1
    rcases hm s hs with⟨_,k1⟩|⟨v,hv,e1,e2⟩
    ·exact k1
    ·rw[e2]
     exact H.ct v hv (by rw[←e1];exact h1)
  exact H1.more (S1.mark _ (fun _=>rfl) (fun _=>rfl) (fun _=>rfl)) _
 ·rw[if_neg hE]
  exact H
theorem jh:lX D (D.born x y):=by
 unfold Wd.born
 split
 ·refine lX.trans (D':=(D.mkD x y).dye (D.mkR x y)) (lX.trans (D':=D.mkD x y) ?_ ⟨rfl,rfl,rfl,rfl⟩) (eU _)
  unfold Wd.mkD
  split<;>exact⟨rfl,rfl,rfl,rfl⟩
 ·exact lX.refl D
def QU(D D':Wd):Prop:=∀s,s∈D'.live→∃v,v∈D.live∧s.h=v.h∧v.mr.refs≤s.mr.refs
theorem QU.more(S:San D)(x:Int):QU D (D.more x):=fun s hs=>by
 have h1:∃v,v∈(D.up x).live∧s.h=v.h∧v.mr.refs=s.mr.refs:=by
  rcases gW (D:=D.up x) x with h|h
  ·refine⟨s,?_,rfl,rfl⟩
   unfold Wd.live
   rw[←h]
   exact hs
  ·have hs2:s∈((D.up x).paint x).live:=by
    unfold Wd.live
    rw[←h]
    exact hs
   obtain⟨v,hv,e1,_,h2⟩:=bJ (S.up x) hs2
   refine⟨v,hv,e1,?_⟩
   rcases h2 with⟨_,h2⟩|⟨_,h2⟩<;>rw[h2]
 obtain⟨v,hv,e1,e2⟩:=h1
 obtain⟨u,hu,e3,_,h2⟩:=bJ S hv
 refine⟨u,hu,e1.trans e3,?_⟩
 rw[←e2]
 rcases h2 with⟨_,h2⟩|⟨_,h2⟩<;>rw[h2]
 ·show u.mr.refs≤u.mr.refs+1
  omega
 ·exact Int.le_refl _
theorem touched(S:San D)(hp:D.phase≠0):∀s,s∈(D.touch x).live→(s.h:Int)+1=x→s.mr.dead=false→s.mr.color=D.parity:=fun s hs e hd=>by
 unfold Wd.touch at hs
 cases ht:D.toucht x with
 |true=>
  rw[ht,if_pos rfl] at hs
  have hs2:s∈(D.paint x).live:=hs
  obtain⟨v,hv,e1,_,h⟩:=bJ S hs2
  rcases h with⟨_,h⟩|⟨k,_⟩
  ·rw[h]
  ·exact absurd (by omega) k
 |false=>
  rw[ht,if_neg (by decide)] at hs
  have:=S.findIt hs
  rw[e] at this
  unfold Wd.toucht at ht
  rw[this] at ht
  simp only[hd,Bool.not_false,Bool.and_true] at ht
  simp[hp] at ht
  exact ht
theorem fu.put(H:fu E D)(S:San D)(N:dX hold D)(hp:D.phase≠0)(hf:D.find r=some t)(hd:t.mr.dead=false){i:Nat}(hi:i<t.pt.length):fu E (D.put r i x (nth t.pt i)):=by
 have htl:=(find_live hf).1
 have h1:San (D.putS r i x)∧fu (fun q=>E q∨q=nth t.pt i) (D.putS r i x)∧lX D (D.putS r i x)∧QU D (D.putS r i x):=by
  unfold Wd.putS
  by_cases hx0:x=0
  ·rw[if_pos hx0]
   refine⟨S.setP hf i (fun h=>by rw[hd] at h;cases h),H.setP S hf hi x (fun q h=>.inl h) (fun q h0 h=>h.elim (fun h=>absurd (h.trans hx0) h0) .inr),⟨rfl,rfl,rfl,rfl⟩,fun s hs=> ?_⟩
   rcases aQ (g:=fun t=>{t with pt:=t.pt.set i x}) S.nd hf hs with rfl|⟨h,_⟩
   ·exact⟨t,htl,rfl,Int.le_refl _⟩
   ·exact⟨s,h,rfl,Int.le_refl _⟩
  ·rw[if_neg hx0]
   obtain⟨m,hf1,hm1⟩:=more_find r hf x
   have S1:=S.more x
   have hcol:∀s,s∈(D.more x).live→(s.h:Int)+1=x→s.mr.dead=false→s.mr.color=D.parity:=touched (S.up x) hp
   have H2:fu (fun q=>(E q∨q=nth t.pt i)∨q=x) ((D.more x).setP r i x):=(H.more S x).setP S1 hf1 hi x (fun q h=>.inl (.inl h)) (fun q h0 h=>h.elim .inr (fun h=>.inl (.inr h)))
   have hb:∀s,s∈((D.more x).setP r i x).live→∃v,v∈(D.more x).live∧s.h=v.h∧s.mr=v.mr:=fun s hs=>by
    rcases aQ (g:=fun t=>{t with pt:=t.pt.set i x}) S1.nd hf1 hs with rfl|⟨h,_⟩
    ·exact⟨_,(find_live hf1).1,rfl,rfl⟩
    ·exact⟨s,h,rfl,rfl⟩
   refine⟨S1.setP hf1 i (fun h=>by have h:m.dead=true:=h;rw[hm1,hd] at h;cases h),H2.strong (fun s hs e h1 h2 h3=> ?_),(eU x).trans ⟨rfl,rfl,rfl,rfl⟩,fun s hs=> ?_⟩
   ·exfalso
    obtain⟨v,hv,e1,e2⟩:=hb s hs
    have h4:=hcol v hv (by omega) (by rw[←e2];exact h2)
    exact h3 (by rw[e2,h4];exact(eU x).1.symm)
   ·obtain⟨v,hv,e1,e2⟩:=hb s hs
    obtain⟨u,hu,k1,k2⟩:=QU.more S x v hv
    exact⟨u,hu,e1.trans k1,by rw[e2];exact k2⟩
 obtain⟨S2,H2,hs2,hg⟩:=h1
 have hp2:(D.putS r i x).phase≠0:=by rw[hs2.2.2.2];exact hp
 unfold Wd.put Wd.putY
 by_cases hc:0<(D.putS r i x).cnt (nth t.pt i)
 ·rw[if_pos hc]
  exact(H2.PU S2 hp2).less (S2.touch _) _
 ·rw[if_neg hc]
  refine H2.strong (fun s hs e _ _ _=> ?_)
  exfalso
  obtain⟨v,hv,e1,e2⟩:=hg s hs
  have h1:=N.cnt v hv
  have h2:fG ((v.h:Int)+1) t≤aj (fG ((v.h:Int)+1)) D.ts:=qY htl
  have h3:1≤fG ((v.h:Int)+1) t:=by
   have h4:=nN ((v.h:Int)+1) 0 t.pt i hi
   rw[if_pos (show nth t.pt i=(v.h:Int)+1 by omega),if_neg (show ¬(0:Int)=(v.h:Int)+1 by omega)] at h4
   unfold fG
   omega
  have h5:=S2.findIt hs
  rw[e] at h5
  unfold Wd.cnt at hc
  rw[h5] at hc
  simp only at hc
  omega
theorem kP(r:Int)(i:Nat)(x y:Int):lX D (D.put r i x y):=by
 have h1:lX D (D.putS r i x):=by
  unfold Wd.putS
  split
  ·exact⟨rfl,rfl,rfl,rfl⟩
  ·exact(eU x).trans ⟨rfl,rfl,rfl,rfl⟩
 unfold Wd.put Wd.putY
 split
 ·exact h1.trans ((eZ y).trans (iJ y))
 ·exact h1
theorem wu(S:San D)(hs:s∈D.live):D.dB ((s.h:Int)+1)=sv D.parity s.mr:=by
 unfold Wd.dB
 rw[S.findIt hs]
 rfl
theorem fu.tally(H:fu E D)(S:San D)(hF:0≤D.field):fu E D.tally:=by
 unfold Wd.tally
 cases hb:D.bv with
 |false=>rw[if_neg (by decide)];exact H
 |true=>
  rw[if_pos rfl]
  unfold Wd.dP
  cases hf:D.find (D.cursor+1) with
  |none=>
   simp only
   have hno:∀u,u∈D.live→(u.h:Int)≠D.cursor:=fun u hu e=>by
    have:=S.findIt hu
    rw[e,hf] at this
    cases this
   have hph:∀q u,u∈aJ D.ts→(D.move (D.cursor+1) 0).ph q u=D.ph q u:=fun q u hu=>by
    have:=hno u hu
    show jl D.parity (D.cursor+1) 0 q u=jl D.parity D.cursor D.field q u
    unfold jl pq
    rw[if_neg this]
    split
    ·rfl
    ·split<;>rfl
   refine⟨fun s hs h1 h2 h3=> ?_,fun s hs h1=> ?_⟩
   ·rw[show(D.move (D.cursor+1) 0).ts=D.ts from rfl,df (hph _)]
    exact H.sh s hs h1 h2 h3
   ·have h1:(s.h:Int)<D.cursor+1:=h1
    have:=hno s hs
    exact H.ct s hs (by omega)
  |some t=>
   simp only
   obtain⟨htl,e⟩:=find_live hf
   have e:(t.h:Int)=D.cursor:=by omega
   have hun:∀u,u∈D.live→(u.h:Int)=D.cursor→u=t:=fun u hu h=>S.sM htl hu (by omega)
   by_cases hct:t.mr.count=D.parity
   ·rw[if_pos hct]
    have hph:∀q u,u∈aJ D.ts→(D.move (D.cursor+1) 0).ph q u=D.ph q u:=fun q u hu=>by
     show jl D.parity (D.cursor+1) 0 q u=jl D.parity D.cursor D.field q u
     unfold jl pq
     by_cases hc:u.mr.count=D.parity
     ·rw[if_pos hc,if_pos hc]
     ·rw[if_neg hc,if_neg hc,if_neg (show ¬(u.h:Int)=D.cursor from fun h=>hc (by rw[hun u hu h];exact hct))]
      split<;>rfl
    refine⟨fun s hs h1 h2 h3=> ?_,fun s hs h1=> ?_⟩
    ·rw[show(D.move (D.cursor+1) 0).ts=D.ts from rfl,df (hph _)]
     exact H.sh s hs h1 h2 h3
    ·have h1:(s.h:Int)<D.cursor+1:=h1
     by_cases h4:(s.h:Int)=D.cursor
     ·rw[hun s hs h4]
      exact hct
     ·exact H.ct s hs (by omega)
   ·rw[if_neg hct]
    by_cases hff:D.field<(t.pt.length:Int)
    ·rw[if_pos hff]
     obtain⟨f,hfe⟩:=Int.eq_ofNat_of_zero_le hF
     have hfl:f<t.pt.length:=by omega
     have hft:D.field.toNat=f:=by omega
     rw[hft]
     have hsum:∀q,aj (((D.aW (nth t.pt f)).move D.cursor (D.field+1)).ph q) ((D.aW (nth t.pt f)).move D.cursor (D.field+1)).ts=aj (D.ph q) D.ts+if nth t.pt f=q then 1 else 0:=fun q=>by
      have h1:aj (jl D.parity D.cursor (D.field+1) q) (D.aW (nth t.pt f)).ts=aj (jl D.parity D.cursor (D.field+1) q) D.ts:=dQ _ (fun t=>pX rfl)
      have h2:aj (jl D.parity D.cursor (D.field+1) q) D.ts=aj (D.ph q) D.ts+if nth t.pt f=q then 1 else 0:=by
       refine lQ (t:=t) S.nd htl ?_ (fun u hu hne=> ?_)
       ·have h3:=rJ q t.pt hfl
        show jl D.parity D.cursor (D.field+1) q t=jl D.parity D.cursor D.field q t+_
        unfold jl pq
        rw[if_neg hct,if_neg hct,if_pos e,if_pos e,hft,show(D.field+1).toNat=f+1 by omega]
        exact h3
       ·show jl D.parity D.cursor (D.field+1) q u=jl D.parity D.cursor D.field q u
        unfold jl pq
        rw[if_neg (show ¬(u.h:Int)=D.cursor by omega),if_neg (show ¬(u.h:Int)=D.cursor by omega)]
      exact h1.trans h2
     refine⟨fun s hs h1 h2 h3=> ?_,fun s hs h1=> ?_⟩
     ·rw[hsum]
      have hs2:s∈(D.mark (nth t.pt f) (fun m=>{m with shade:=D.parity,shadow:=D.dB (nth t.pt f)+1})).live:=hs
      show sv D.parity s.mr=_
      have h3:s.mr.color≠D.parity:=h3
      obtain⟨v,hv,e1,_,hm⟩:=bJ S hs2
      rcases hm with⟨k1,k2⟩|⟨k1,k2⟩
      ·rw[k2] at h2 h3 ⊢
       rw[e1] at h1 ⊢
       have h4:=H.sh v hv h1 h2 h3
       have h5:=wu S hv
       rw[if_pos k1.symm]
       unfold sv
       rw[if_pos rfl]
       show D.dB (nth t.pt f)+1=_
       rw[←k1,h5,h4]
       omega
      ·rw[k2] at h2 h3 ⊢
       rw[e1] at h1 ⊢
       rw[if_neg (fun h=>k1 h.symm),H.sh v hv h1 h2 h3]
       rfl
     ·have h1:(s.h:Int)<D.cursor:=h1
      obtain⟨v,hv,e1,e2⟩:=pQ S (show s∈(D.aW (nth t.pt f)).live from hs)
      rw[e2]
      exact H.ct v hv (by omega)
    ·rw[if_neg hff]
     have hsum:∀q,aj (((D.done (D.cursor+1)).move (D.cursor+1) 0).ph q) ((D.done (D.cursor+1)).move (D.cursor+1) 0).ts=aj (D.ph q) D.ts:=fun q=>by
      have h1:=gz (φ:=jl D.parity (D.cursor+1) 0 q) (g:=fun t=>{t with mr:={t.mr with count:=D.parity}}) hf (find_at hf).2.1
      have h2:jl D.parity (D.cursor+1) 0 q {t with mr:={t.mr with count:=D.parity}}=D.ph q t:=by
       show _=jl D.parity D.cursor D.field q t
       unfold jl pq
       rw[if_pos rfl,if_neg hct,if_pos e,List.take_of_length_le (Nat.le_refl _),List.take_of_length_le (by omega)]
      have h3:jl D.parity (D.cursor+1) 0 q t=0:=by
       unfold jl pq
       rw[if_neg hct,if_neg (by omega)]
       rfl
      have h4:aj (D.ph q) D.ts=aj (jl D.parity (D.cursor+1) 0 q) D.ts+D.ph q t:=by
       refine lQ (t:=t) S.nd htl (by omega) (fun u hu hne=> ?_)
       show jl D.parity D.cursor D.field q u=jl D.parity (D.cursor+1) 0 q u
       unfold jl pq
       rw[if_neg (show ¬(u.h:Int)=D.cursor by omega)]
       split
       ·rfl
       ·split<;>rfl
      have h5:((D.done (D.cursor+1)).move (D.cursor+1) 0).ts=bE (D.cursor+1) (fun t=>{t with mr:={t.mr with count:=D.parity}}) D.ts:=rfl
      rw[h5]
      show aj (jl D.parity (D.cursor+1) 0 q) _=_
      omega
     refine⟨fun s hs h1 h2 h3=> ?_,fun s hs h1=> ?_⟩
     ·rw[hsum]
      have hs2:s∈(D.mark (D.cursor+1) (fun m=>{m with count:=D.parity})).live:=hs
      show sv D.parity s.mr=_
      have h3:s.mr.color≠D.parity:=h3
      obtain⟨v,hv,e1,_,hm⟩:=bJ S hs2
      rcases hm with⟨k1,k2⟩|⟨k1,k2⟩
      ·rw[k2] at h2 h3 ⊢
       rw[e1] at h1 ⊢
       exact H.sh v hv h1 h2 h3
      ·rw[k2] at h2 h3 ⊢
       rw[e1] at h1 ⊢
       exact H.sh v hv h1 h2 h3
     ·have h1:(s.h:Int)<D.cursor+1:=h1
      obtain⟨v,hv,e1,h4⟩:=uX S (show s∈(D.done (D.cursor+1)).live from hs)
      rcases h4 with⟨_,h4⟩|⟨k1,h4⟩
      ·exact h4
      ·rw[h4]
       exact H.ct v hv (by omega)
theorem kU:D.tally.phase=D.phase∧D.tally.parity=D.parity:=by
 unfold Wd.tally
 split
 ·unfold Wd.dP
  split
  ·exact⟨rfl,rfl⟩
  ·split
   ·exact⟨rfl,rfl⟩
   ·split<;>exact⟨rfl,rfl⟩
 ·exact⟨rfl,rfl⟩
theorem bA.same(h:bA D)(k:D'.ts=D.ts)(hp:D'.parity=D.parity):bA D':=⟨hp.trans h.1,by rw[k];exact h.2⟩
theorem bA.upd(h:bA D)(k:D'.ts=bE r g D.ts)(hp:D'.parity=D.parity)(hg:∀t,(g t).mr.count=t.mr.count∧(g t).mr.shade=t.mr.shade):bA D':=
 ⟨hp.trans h.1,by rw[k];exact iO (P:=fun t=>t.mr.count=0∧t.mr.shade=0) (fun t ht=>by rw[(hg t).1,(hg t).2];exact ht) r h.2⟩
theorem bA.touch(h:bA D)(r:Int):bA (D.touch r):=by
 rcases gW (D:=D) r with k|k
 ·exact h.same k (eZ r).1
 ·exact(h.mark r (f:=fun m=>{m with color:=D.parity}) (fun m hm=>hm)).same k (eZ r).1
theorem bA.bury(h:bA D)(x:Int):bA (D.bury x):=by
 unfold Wd.bury
 split
 ·exact h
 ·split
  ·exact h
  ·exact h.upd (gK x _) rfl (fun _=>⟨rfl,rfl⟩)
theorem bA.inter(h:bA D)(x:Int):bA (D.inter x):=by
 unfold Wd.inter
 split
 ·exact h.bury x
 ·exact h
theorem bA.more(h:bA D)(x:Int):bA (D.more x):=(h.mark x (f:=fun m=>{m with refs:=m.refs+1}) (fun m hm=>hm)).touch x
theorem bA.less(h:bA D)(x:Int):bA (D.less x):=((h.mark x (f:=fun m=>{m with refs:=m.refs-1}) (fun m hm=>hm)).same (D':=(D.down x).sus) rfl rfl).inter x
theorem bA.put(h:bA D)(r:Int)(i:Nat)(x y:Int):bA (D.put r i x y):=by
 have h1:bA (D.putS r i x):=by
  unfold Wd.putS
  split
  ·exact h.setP r i x
  ·exact(h.more x).setP r i x
 unfold Wd.put Wd.putY
 split
 ·exact(h1.touch y).less y
 ·exact h1
theorem bA.born(h:bA D)(x y:Int):bA (D.born x y):=by
 unfold Wd.born
 split
 ·exact((h.mkD x y).dye _).more _
 ·exact h
theorem bA.ah(h:bA D)(x:Int):bA (D.ah x):=by
 unfold Wd.ah
 split
 ·exact h.mark x (fun m hm=>hm)
 ·exact h
theorem bA.drain(h:bA D)(r:Int)(i:Nat)(x:Int):bA (D.drain r i x):=by
 have key:∀D2:Wd,bA D2→bA ((D2.down x).inter x):=fun D2 h=>(h.mark x (f:=fun m=>{m with refs:=m.refs-1}) (fun m hm=>hm)).inter x
 unfold Wd.drain
 by_cases hc:(D.setP r i 0).cnt x=0
 ·rw[if_pos hc]
  exact h.setP r i 0
 ·rw[if_neg hc]
  refine key _ ?_
  split
  ·exact(h.setP r i 0).ah x
  ·exact h.setP r i 0
theorem bA.step(h:bA D):bA D.step:=by
 unfold Wd.step
 split
 ·exact h
 ·split
  ·exact h
  ·unfold Wd.work
   split
   ·exact(h.drain _ _ _).mark _ (fun m hm=>hm)
   ·split
    ·exact h.upd (fV _ _ _ _) rfl (fun _=>⟨rfl,rfl⟩)
    ·exact h.upd (g:=fun s=>{s with ended:=true}) rfl rfl (fun _=>⟨rfl,rfl⟩)
def TM(D:Wd):Prop:=(D.phase=0∧bA D)∨(D.phase=1∧fu (fun _=>False) D)
theorem TM.up(T:TM D)(S:San D)(r:Int):TM (D.more r):=by
 rcases T with⟨h,k⟩|⟨h,k⟩
 ·exact .inl ⟨(eU r).2.2.2.trans h,k.more r⟩
 ·exact .inr ⟨(eU r).2.2.2.trans h,k.more S r⟩
theorem TM.less(T:TM D)(S:San D)(r:Int):TM (D.less r):=by
 rcases T with⟨h,k⟩|⟨h,k⟩
 ·exact .inl ⟨(iJ r).2.2.2.trans h,k.less r⟩
 ·exact .inr ⟨(iJ r).2.2.2.trans h,k.less S r⟩
theorem TM.put(T:TM D)(S:San D)(N:dX hold D)(hf:D.find r=some t)(hd:t.mr.dead=false){i:Nat}(hi:i<t.pt.length):TM (D.put r i x (nth t.pt i)):=by
 rcases T with⟨h,k⟩|⟨h,k⟩
 ·exact .inl ⟨(kP _ _ _ _).2.2.2.trans h,k.put _ _ _ _⟩
 ·exact .inr ⟨(kP _ _ _ _).2.2.2.trans h,k.put S N (by omega) hf hd hi⟩
theorem TM.born{N:Nat}(T:TM D)(S:San D)(B:BornOk D x y N):TM (D.born x y):=by
 rcases T with⟨h,k⟩|⟨h,k⟩
 ·exact .inl ⟨jh.2.2.2.trans h,k.born x y⟩
 ·exact .inr ⟨jh.2.2.2.trans h,k.born S B⟩
theorem TM.step(T:TM D)(S:San D)(N:dX hold D)(hF:0≤D.field):TM D.step:=by
 rcases T with⟨h,k⟩|⟨h,k⟩
 ·exact .inl ⟨jr.2.2.2.trans h,k.step⟩
 ·exact .inr ⟨jr.2.2.2.trans h,k.step S N (.inl h) hF⟩
theorem TM.tally(T:TM D)(S:San D)(hF:0≤D.field):TM D.tally:=by
 rcases T with⟨h,k⟩|⟨h,k⟩
 ·have e:D.tally=D:=mV (wE (by omega))
  rw[e]
  exact .inl ⟨h,k⟩
 ·exact .inr ⟨kU.1.trans h,k.tally S hF⟩
theorem TM.begin_(T:TM D)(h0:D.phase=0):TM (D.turn.begin 1):=by
 rcases T with⟨h,k⟩|⟨h,k⟩
 ·refine .inr ⟨rfl,?_,?_⟩
  ·intro s hs _ _ _
   have hp:(D.turn.begin 1).parity=1:=by
    show 1-D.parity=1
    rw[k.1]
    rfl
   have hm:=k.2 s (dV.1 (show s∈aJ D.ts from hs)).1
   rw[hp]
   unfold sv
   rw[if_neg (by rw[hm.2];decide),lN (fun u hu=> ?_)]
   ·rfl
   ·have hu2:=k.2 u (dV.1 (show u∈aJ D.ts from hu)).1
    show jl (D.turn.begin 1).parity 0 0 _ u=0
    rw[hp]
    unfold jl pq
    rw[if_neg (by rw[hu2.1];decide)]
    split<;>rfl
  ·intro s hs h1
   have h1:(s.h:Int)<0:=h1
   omega
 ·omega
theorem TM.JM{N:Nat}(T:TM D)(S:San D)(hN:D.n=N)(hb:D.bv=false)(h1:D.phase=1)(hlt:∀t,t∈D.live→t.h<N)(hs:s∈D.live)(hd:s.mr.dead=false)(hc:s.mr.color≠D.parity):D.dB ((s.h:Int)+1)=((aj (fG ((s.h:Int)+1)) D.ts:Nat):Int):=by
 rcases T with⟨h,_⟩|⟨_,H⟩
 ·omega
 ·rw[wu S hs,H.sh s hs (fun h=>h) hd hc]
  congr 1
  refine df (fun u hu=> ?_)
  have hcu:(D.n:Int)≤D.cursor:=by
   unfold Wd.bv at hb
   rw[decide_eq_true h1] at hb
   simp at hb
   exact hb
  have:=H.ct u hu (by have:=hlt u hu;omega)
  show jl D.parity D.cursor D.field _ u=_
  unfold jl pq fG
  rw[if_pos this,List.take_length]
end
end Go.Proofs.YtjmifnljckmimaaGreat.Pk
