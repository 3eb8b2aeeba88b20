/-
  Texts laid together: RefSee, LinkPl, LinkPi, RefT, Tally, TallyBeg, TallyNob, TallyCnt, TallyHold, FloodW, FloodRep, FloodHold, FloodPot.
-/
import Derived.Test.YtjmifnljckmimaaGreatGravNamEtc
import Derived.Test.YtjmifnljckmimaaGreatChainsEtc
import Derived.Test.YtjmifnljckmimaaGreatBaseEtc
import Derived.BigQuiet
import Derived.Deep.RegionHeld3
import Derived.RegionTactic
import Derived.Deep.RegionWith
import Derived.Test.YtjmifnljckmimaaGreatGravGrownEtc
import Derived.Test.YtjmifnljckmimaaGreatRefG4Etc
import Derived.Test.YtjmifnljckmimaaGreatFloodFnEtc
import Derived.Test.YtjmifnljckmimaaGreatRefMkEtc
import Derived.Test.YtjmifnljckmimaaGreatTintFn4Etc
namespace Go.Proofs.YtjmifnljckmimaaGreat.Pk
open Go.RowKit
set_option linter.unusedVariables false
set_option linter.unusedSimpArgs false
set_option maxRecDepth 100000
section
variable {w w':World} {lo:Nat} {lab:Nat→Nat} {a:WA} {D:Wd} {i:Nat} {t t':Th} {x:TA} {n v b:Nat} {c:Cf} {zs:List Int}
theorem av.szt(R:av c zs D)(hm:c.May)(S:San D)(htl:t∈D.live):SzT D.w t:=by
 have ho:=R.heap.obs t.ob (R.obMem htl)
 have hw:=hm.w
 have e:t.ob.f=t.pt.length+t.dt.length:=rfl
 have h1:=ho.size
 rw[e] at h1
 rw[R.w]
 refine⟨by omega,by omega,h1,fun hb=> ?_⟩
 have g:=(S.ok t htl).ql.big (by rw[R.w];exact hb)
 rw[R.w] at g
 exact g.2
end
section
variable {c:Cf} {zs zs':List Int} {D D':Wd} {t u:Th} {r x y:Int} {w wr w':World} {p:Pl} {q lo m k n:Nat}
structure Sit (c:Cf) (D:Wd):Prop where
 san:San D
 rep:∃zs,Wz c zs∧av c zs D
theorem RSt.sit(h:RSt w p c D wr)(S:San D):Sit c D:=by
 obtain⟨zs,m,hG,hR,_⟩:=h
 exact⟨S,zs,hG.wz,hR⟩
theorem Sit.lens(h:Sit c D):D.ring.length≤c.N∧D.grave.length≤c.N∧D.clean.length≤c.N:=by
 obtain⟨zs,hz,R⟩:=h.rep
 have h1:=dX R.ring.nd R.ring.lt
 have h2:(D.grave.map (· -1)).length≤c.N:=dX R.grave.nd R.grave.lt
 have h3:=dX R.heap.pl.ch.nd R.heap.pl.ch.lt
 rw[List.length_map] at h2
 exact⟨h1,h2,h3⟩
end
section
variable {c:Cf} {D D':Wd} {t u:Th} {r x y:Int} {k K N n:Nat}
def iR(k:Nat)(D:Wd):Prop:=∀q t,D.find q=some t→t.mr.refs≤(k:Int)∧t.mr.shadow≤(k:Int)
theorem iR.mono(h:iR k D)(hk:k≤K):iR K D:=fun q t hf=>by have:=h q t hf;omega
theorem iR.ts(h:iR k D)(e:D'.ts=D.ts):iR k D':=fun q t hf=>h q t (by unfold Wd.find at *;rw[←e];exact hf)
theorem iR.upd(h:iR k D)(r:Int)(g:Th→Th)(hk:k≤K)(hg:∀t,(g t).ended=t.ended∧(g t).h=t.h)(h1:∀t,D.find r=some t→(g t).mr.refs≤(K:Int)∧(g t).mr.shadow≤(K:Int)):iR K (D.upd r g):=fun q s hs=>by
 rw[kW hg] at hs
 cases hq:D.find q with
 |none=>rw[hq] at hs;cases hs
 |some t=>
  rw[hq] at hs
  simp only[Option.map_some,Option.some.injEq] at hs
  by_cases e:t.at r=true
  ·rw[if_pos e] at hs
   have hr:q=r:=by
    have:=(find_live hq).2
    unfold Th.at at e
    simp at e
    omega
   subst hs
   exact h1 t (by rw[←hr];exact hq)
  ·rw[if_neg e] at hs
   subst hs
   have:=h q t hq
   omega
theorem iR.mark(h:iR k D)(r:Int)(f:Mrk→Mrk)(hk:k≤K)(h1:∀t,D.find r=some t→(f t.mr).refs≤(K:Int)∧(f t.mr).shadow≤(K:Int)):iR K (D.mark r f):=
 h.upd r (fun t=>{t with mr:=f t.mr}) hk (fun _=>⟨rfl,rfl⟩) h1
theorem iR.keep(h:iR k D)(r:Int)(f:Mrk→Mrk)(h1:∀m,(f m).refs≤m.refs)(h2:∀m,(f m).shadow≤m.shadow):iR k (D.mark r f):=
 h.mark r f (Nat.le_refl _) (fun t ht=>by have:=h r t ht;have:=h1 t.mr;have:=h2 t.mr;omega)
theorem iR.setP(h:iR k D)(r:Int)(i:Nat)(x:Int):iR k (D.setP r i x):=h.upd r (fun t=>{t with pt:=t.pt.set i x}) (Nat.le_refl _) (fun _=>⟨rfl,rfl⟩) (fun t ht=>h r t ht)
theorem iR.touch(h:iR k D)(r:Int):iR k (D.touch r):=by
 rcases iO (D:=D) r with e|e
 ·exact h.ts e
 ·exact(h.keep r (fun m=>{m with color:=D.parity}) (fun _=>Int.le_refl _) (fun _=>Int.le_refl _)).ts e
theorem iR.more(h:iR k D)(r:Int):iR (k+1) (D.more r):=
 (h.mark r (fun m=>{m with refs:=m.refs+1}) (Nat.le_succ k) (fun t ht=>by have:=h r t ht;show t.mr.refs+1≤_∧t.mr.shadow≤_;omega)).touch r
theorem iR.down(h:iR k D)(r:Int):iR k (D.down r):=h.keep r (fun m=>{m with refs:=m.refs-1}) (fun m=>by show m.refs-1≤m.refs;omega) (fun _=>Int.le_refl _)
theorem iR.bury(h:iR k D)(x:Int):iR k (D.bury x):=by
 unfold Wd.bury
 cases hf:D.find x with
 |none=>exact h
 |some t=>
  simp only
  split
  ·exact h
  ·have:iR k (D.upd x (fun s=>{s with mr:={s.mr with dead:=true,left:=(t.pt.length:Int),leaves:=(t.lv.length:Int)}})):=h.upd x _ (Nat.le_refl _) (fun _=>⟨rfl,rfl⟩) (fun u hu=>h x u hu)
   exact this.ts (gI x t)
theorem iR.inter(h:iR k D)(x:Int):iR k (D.inter x):=by
 unfold Wd.inter
 split
 ·exact h.bury x
 ·exact h
theorem iR.less(h:iR k D)(r:Int):iR k (D.less r):=((h.down r).ts (D':=(D.down r).sus) rfl).inter r
theorem iR.put(h:iR k D)(r:Int)(i:Nat)(x y:Int):iR (k+1) (D.put r i x y):=by
 have h1:iR (k+1) (D.putS r i x):=by
  unfold Wd.putS
  split
  ·exact(h.setP r i x).mono (Nat.le_succ k)
  ·exact(h.more x).setP r i x
 unfold Wd.put Wd.putY
 split
 ·exact(h1.touch y).less y
 ·exact h1
def QD(N k:Nat)(l:List Nat):Prop:=l.length≤k∧∀h,h∈l→h<N
theorem wP(x:Int):(D.touch x).ts.map Th.h=D.ts.map Th.h:=by
 rcases iO (D:=D) x with h|h
 ·rw[h]
 ·rw[h];exact dI x _
theorem Ae(x:Int):(D.more x).ts.map Th.h=D.ts.map Th.h:=(wP x).trans (dI x _)
theorem GI(x:Int):(D.less x).ts.map Th.h=D.ts.map Th.h:=(qA (D:=(D.down x).sus) x).trans (show(D.down x).sus.ts.map Th.h=D.ts.map Th.h from dI (D:=D) x (fun m=>{m with refs:=m.refs-1}))
theorem PV(r:Int)(i:Nat)(x y:Int):(D.put r i x y).ts.map Th.h=D.ts.map Th.h:=by
 have h1:(D.putS r i x).ts.map Th.h=D.ts.map Th.h:=by
  unfold Wd.putS
  split
  ·exact mD r i x
  ·exact(mD (D:=D.more x) r i x).trans (Ae x)
 unfold Wd.put Wd.putY
 split
 ·exact(GI y).trans ((wP y).trans h1)
 ·exact h1
structure PInv (c:Cf) (k:Nat) (D:Wd):Prop where
 san:San D
 bd:iR k D
 hd:QD c.N k (D.ts.map Th.h)
theorem PInv.new(c:Cf){v:Nat}(hv:16≤v):PInv c 0 (Wd.new c.N v):=⟨San.new c.N hv,fun q t hf=>by simp[Wd.find,Wd.new,aP] at hf,by simp[Wd.new,QD]⟩
theorem QD.mono{l:List Nat}(h:QD N k l)(hk:k≤K):QD N K l:=⟨Nat.le_trans h.1 hk,h.2⟩
theorem PInv.mono(I:PInv c k D)(hk:k≤K):PInv c K D:=⟨I.san,I.bd.mono hk,I.hd.mono hk⟩
theorem PInv.up(I:PInv c k D):PInv c (k+1) D:=I.mono (Nat.le_succ k)
theorem PInv.to(I:PInv c k D)(S:San D')(B:iR (k+1) D')(e:D'.ts.map Th.h=D.ts.map Th.h):PInv c (k+1) D':=⟨S,B,by rw[e];exact I.hd.mono (Nat.le_succ k)⟩
theorem PInv.put(I:PInv c k D)(hf:D.find r=some t)(hd:t.mr.dead=false)(i:Nat)(x y:Int):PInv c (k+1) (D.put r i x y):=
 I.to (I.san.RU hf hd) (I.bd.put r i x y) (PV r i x y)
theorem PInv.turn(I:PInv c k D):PInv c (k+1) D.turn:=I.to (I.san.same_but rfl rfl rfl rfl (fun b hb=>.inl hb)) ((I.bd.mono (Nat.le_succ k)).ts rfl) rfl
theorem PInv.nH(I:PInv c k D)(i:Int):PInv c (k+1) (D.nH i):=by
 unfold Wd.nH
 split
 ·exact I.to (I.san.same_but rfl rfl rfl rfl (fun b hb=>.inl hb)) ((I.bd.mono (Nat.le_succ k)).ts rfl) rfl
 ·exact I.up
theorem PInv.aW(I:PInv c k D)(r:Int):PInv c (k+1) (D.aW r):=by
 refine I.to (I.san.mark r (fun _=>rfl) (fun _=>rfl) (fun _=>rfl)) (I.bd.mark r _ (Nat.le_succ k) (fun t ht=> ?_)) (dI r _)
 have h1:=I.bd r t ht
 refine⟨by show t.mr.refs≤_;omega,?_⟩
 show D.dP r+1≤_
 unfold Wd.dP
 rw[ht]
 show(if t.mr.shade=D.parity then t.mr.shadow else 0)+1≤_
 split<;>omega
theorem PInv.done(I:PInv c k D)(r:Int):PInv c (k+1) (D.done r):=
 I.to (I.san.mark r (fun _=>rfl) (fun _=>rfl) (fun _=>rfl)) ((I.bd.keep r (fun m=>{m with count:=D.parity}) (fun _=>Int.le_refl _) (fun _=>Int.le_refl _)).mono (Nat.le_succ k)) (dI r _)
theorem yF:∀{l1 l2:List Th} {q:Int} {s:Th},aP q (l1++l2)=some s→aP q l1=some s∨aP q l2=some s
 |[],l2,q,s,h=>.inr h
 |u::l,l2,q,s,h=>by
  have e0:aP q ((u::l)++l2)=if u.at q then some u else aP q (l++l2):=rfl
  have e1:aP q (u::l)=if u.at q then some u else aP q l:=rfl
  rw[e0] at h
  rw[e1]
  by_cases e:u.at q=true
  ·rw[if_pos e] at h ⊢;exact .inl h
  ·rw[if_neg e] at h ⊢;exact yF h
theorem PInv.born(I:PInv c k D)(B:BornOk D x y c.N):PInv c (k+1) (D.born x y):=by
 refine⟨B.RY I.san,?_,?_⟩
 ·unfold Wd.born
  split
  ·rename_i hE
   have h1:iR k (D.mkD x y):=by
    unfold Wd.mkD
    rw[if_pos hE]
    intro q s hs
    have hs:aP q (D.ts++[_])=some s:=hs
    rcases yF hs with h|h
    ·exact I.bd q s h
    ·have:s=⟨D.mkB,ints (D.clean.tail.take (D.mkN x y)),zer x.toNat,zer y.toNat,false,Mrk.new⟩:=by
      unfold aP at h
      split at h
      ·exact(Option.some.inj h).symm
      ·simp[aP] at h
     subst this
     show(0:Int)≤_∧(0:Int)≤_
     omega
   exact(h1.mark _ _ (Nat.le_refl _) (fun t ht=>⟨(h1 _ t ht).1,by show(0:Int)≤_;omega⟩)).more _
  ·exact I.bd.mono (Nat.le_succ k)
 ·unfold Wd.born
  split
  ·rename_i hE
   have e1:(((D.mkD x y).dye (D.mkR x y)).more (D.mkR x y)).ts.map Th.h=(D.mkD x y).ts.map Th.h:=(Ae _).trans (dI _ _)
   have e2:(D.mkD x y).ts.map Th.h=D.ts.map Th.h++[D.mkB]:=by unfold Wd.mkD;rw[if_pos hE];show(D.ts++[_]).map Th.h=_;rw[List.map_append];rfl
   rw[e1,e2]
   refine⟨by rw[List.length_append];have:=I.hd.1;simp at *;omega,fun h hh=> ?_⟩
   rcases List.mem_append.1 hh with hh|hh
   ·exact I.hd.2 h hh
   ·rw[List.mem_singleton.1 hh];exact B.lt hE
  ·exact I.hd.mono (Nat.le_succ k)
end
def Wd.bv(D:Wd):Bool:=decide (D.phase=1)&&decide (D.cursor<(D.n:Int))
def Wd.dV(D:Wd):Option Th→Wd
 |none=>D.move (D.cursor+1) 0
 |some t=>if t.mr.count=D.parity then D.move (D.cursor+1) 0
  else if D.field<(t.pt.length:Int) then(D.aW (nth t.pt D.field.toNat)).move D.cursor (D.field+1)
  else(D.done (D.cursor+1)).move (D.cursor+1) 0
def Wd.tally(D:Wd):Wd:=if D.bv then D.dV (D.find (D.cursor+1)) else D
section
variable {w w':World} {lo:Nat} {lab:Nat→Nat} {a:WA} {D D':Wd} {i:Nat} {t t' u:Th} {x:TA}
theorem WAt.move(h:WAt w lo lab a D)(c f:Int):WAt ((w.setCell ⟨a.q,4,none⟩ (.int .i64 c)).setCell ⟨a.q,5,none⟩ (.int .i64 f)) lo lab a (D.move c f):=by
 have k2:=h.setNum (D':={D with cursor:=c}) (k:=4) (u:=.int .i64 c) rfl rfl rfl rfl rfl rfl rfl
 exact k2.setNum (D':=D.move c f) (k:=5) (u:=.int .i64 f) rfl rfl rfl rfl rfl rfl rfl
theorem Touch.move{q:Nat}(h:Touch (fun b=>lo≤b) w w')(hq:lo≤q)(c f:Int):Touch (fun b=>lo≤b) w ((w'.setCell ⟨q,4,none⟩ (.int .i64 c)).setCell ⟨q,5,none⟩ (.int .i64 f)):=
 (h.setCell (p:=⟨q,4,none⟩) (fun _=>hq) _).setCell (p:=⟨q,5,none⟩) (fun _=>hq) _
end
section
variable {c:Cf} {zs:List Int} {D:Wd} {t:Th} {r:Int} {k:Nat}
theorem Gx(S:San D)(hz:Wz c zs)(R:av c zs D)(hf:D.find r=some t){i:Nat}(hi:i<t.pt.length):
  In64 (nth t.pt i)∧∃e:Int,gY c 70 [.int .i64 r,.int .i64 (i:Int)] zs 12 zs (.tuple #[.int .i64 (nth t.pt i),.int .i64 e]):=by
 have hr:=find64 hz.may R hf
 obtain⟨htl,_⟩:=find_live hf
 have hk:=S.ok t htl
 cases ha:aS c t.ob i with
 |some a=>
  obtain⟨h1,b0,b1⟩:=qU hz R hr hf hi ha
  exact⟨by constructor<;>omega,0,h1⟩
 |none=>
  have h0:nth t.pt i=0:=by
   cases hd:t.mr.dead with
   |true=>
    have d:=hk.dead hd
    by_cases hl:(i:Int)<t.mr.left
    ·obtain⟨_,a,h⟩:=d.field hz.may R.w.symm hk.ql hl
     rw[ha] at h
     cases h
    ·exact d.zero i (by omega)
   |false=>
    obtain⟨a,h⟩:=(hk.alive hd).field hz.may R.w.symm hk.ql hi
    rw[ha] at h
    cases h
  have hob:=obAt_find R r
  rw[hf] at hob
  have e1:qR c zs D.obs r (i:Int)=nth t.pt i:=by
   unfold qR
   rw[hob]
   show(if jG (i:Int) t.ob.np then fK c zs t.ob (i:Int).toNat else 0)=_
   rw[if_pos (iX (show i<t.ob.np from hi)),Int.toNat_natCast]
   unfold fK
   rw[ha,h0]
  have h:=objFns.ptr c zs D.clean D.obs r (i:Int) hz R.heap hr
  rw[e1] at h
  exact⟨by rw[h0];constructor<;>omega,_,h⟩
theorem Aa(S:San D)(hf:D.find r=some t){f:Int}(hn:¬f<(t.pt.length:Int)):Does c D 136 [.int .i64 r,.int .i64 f] 12 D (.bool false):=fun zs hz R=>by
 have hob:=obAt_find R r
 rw[hf] at hob
 obtain⟨d1,hd1,C1⟩:=objFns.iJ c zs D.clean D.obs r t.ob hz R.heap hob
 exact⟨zs,⟨d1,hd1,Bo (n:=(t.ob.np:Int)) hn C1⟩,R⟩
theorem IJ(S:San D)(hf:D.find r=some t){j:Nat}(hj:j<t.pt.length)(hb:D.dP (nth t.pt j)<4294967295):Does c D 136 [.int .i64 r,.int .i64 (j:Int)] 33 (D.aW (nth t.pt j)) (.bool true):=fun zs hz R=>by
 have hob:=obAt_find R r
 rw[hf] at hob
 obtain⟨d1,hd1,C1⟩:=objFns.iJ c zs D.clean D.obs r t.ob hz R.heap hob
 obtain⟨h64,e,d2,hd2,C2⟩:=Gx S hz R hf hj
 obtain⟨zs3,⟨d3,hd3,C3⟩,R3,hz3⟩:=(tintFns.aW c D (nth t.pt j) h64 hb).at hz R
 have hn:(j:Int)<(t.ob.np:Int):=by show(j:Int)<(t.pt.length:Int);omega
 exact⟨zs3,⟨d1+d2+d3,by omega,Ju hn C1 C2 C3⟩,R3⟩
theorem IR{x y:Int}(h0:0≤x)(h1:x≤4294967295)(h2:0≤y)(h3:y≤4294967295):D.yN x y=D.move x y:=by
 unfold Wd.yN Lc
 rw[if_pos (by simp[h0,h1,h2,h3])]
theorem Nw{x y:Int}(h0:0≤x)(h1:x≤4294967295)(h2:0≤y)(h3:y≤4294967295):Lc x y=true:=by
 unfold Lc
 simp[h0,h1,h2,h3]
theorem je{x y:Int}(h0:0≤x)(h1:x≤4294967295)(h2:0≤y)(h3:y≤4294967295):Does c D 53 [.int .i64 x,.int .i64 y] 2 (D.move x y) (.bool true):=by
 have h:=tintFns.move c D x y
 rw[IR h0 h1 h2 h3,Nw h0 h1 h2 h3] at h
 exact h
theorem av.curs(R:av c zs D)(hz:Wz c zs):(0≤D.cursor∧D.cursor≤4294967295)∧0≤D.field∧D.field≤4294967295:=by
 have h1:=R.reg 12 (by omega) (by omega)
 have h2:=R.reg 13 (by omega) (by omega)
 have e1:D.reg 12=D.cursor:=rfl
 have e2:D.reg 13=D.field:=rfl
 rw[e1] at h1
 rw[e2] at h2
 have b1:=hz.wf 12
 have b2:=hz.wf 13
 rw[←h1,←h2]
 exact⟨b1,b2⟩
theorem KT(S:San D)(hb:∀q,D.dP q<4294967295):Does c D 76 [] 96 D.tally (.bool D.bv):=fun zs hz R=>by
 have hm:=hz.may
 have hmn:=hm.n
 have hN:=R.n
 obtain⟨⟨k0,k1⟩,f0,f1⟩:=R.curs hz
 obtain⟨zs1,⟨d1,hd1,C1⟩,R1,hz1⟩:=(tintFns.at_ c D).at hz R
 obtain⟨zs2,⟨d2,hd2,C2⟩,R2,hz2⟩:=(tintFns.phase c D).at hz1 R1
 by_cases hp:D.phase=1
 ·rw[hp] at C2
  by_cases hk:D.cursor<(D.n:Int)
  ·have e:D.bv=true:=by unfold Wd.bv;simp[hp,hk]
   have hk':D.cursor<(c.N:Int):=by rw[←hN];exact hk
   have hr:In64 (D.cursor+1):=by constructor<;>omega
   unfold Wd.tally
   rw[e,if_pos rfl]
   obtain⟨zs3,⟨d3,hd3,C3⟩,R3,hz3⟩:=(Gw (c:=c) (D:=D) hr).at hz2 R2
   cases hf:D.find (D.cursor+1) with
   |none=>
    rw[hf] at C3
    obtain⟨zs4,⟨d4,hd4,C4⟩,R4,hz4⟩:=(je (c:=c) (D:=D) (x:=D.cursor+1) (y:=0) (by omega) (by omega) (by omega) (by omega)).at hz3 R3
    exact⟨zs4,⟨d1+d2+d3+d4,by omega,Bj k0 hk' hm C1 C2 C3 C4⟩,R4⟩
   |some t=>
    rw[hf] at C3
    obtain⟨zs4,⟨d4,hd4,C4⟩,R4,hz4⟩:=(tintFns.counted c D (D.cursor+1) D.field hr).at hz3 R3
    have hc:D.counted (D.cursor+1) D.field=decide (t.mr.count=D.parity):=by
     unfold Wd.counted
     rw[hf]
     simp[f0]
    rw[hc] at C4
    unfold Wd.dV
    by_cases hct:t.mr.count=D.parity
    ·rw[show decide (t.mr.count=D.parity)=true from decide_eq_true hct] at C4
     obtain⟨zs5,⟨d5,hd5,C5⟩,R5,hz5⟩:=(je (c:=c) (D:=D) (x:=D.cursor+1) (y:=0) (by omega) (by omega) (by omega) (by omega)).at hz4 R4
     simp only[hct,if_true]
     exact⟨zs5,⟨d1+d2+d3+d4+d5,by omega,uz k0 hk' hm C1 C2 C3 C4 C5⟩,R5⟩
    ·rw[show decide (t.mr.count=D.parity)=false from decide_eq_false hct] at C4
     simp only[hct,if_false]
     by_cases hff:D.field<(t.pt.length:Int)
     ·obtain⟨j,hj⟩:=Int.eq_ofNat_of_zero_le f0
      have hjl:j<t.pt.length:=by omega
      have hsz:=(R4.szt hm S (find_live hf).1).small
      obtain⟨zs5,⟨d5,hd5,C5⟩,R5,hz5⟩:=(IJ (c:=c) S hf hjl (hb _)).at hz4 R4
      obtain⟨zs6,⟨d6,hd6,C6⟩,R6,hz6⟩:=(je (c:=c) (D:=D.aW (nth t.pt j)) (x:=D.cursor) (y:=(j:Int)+1) (by omega) (by omega) (by omega) (by omega)).at hz5 R5
      simp only[hff,if_true]
      rw[hj] at C1 C4 ⊢
      rw[Int.toNat_natCast]
      exact⟨zs6,⟨d1+d2+d3+d4+d5+d6,by omega,Bg (f:=(j:Int)) (by omega) (by omega) k0 hk' hm C1 C2 C3 C4 C5 C6⟩,R6⟩
     ·obtain⟨zs5,⟨d5,hd5,C5⟩,R5,hz5⟩:=(Aa (c:=c) S hf hff).at hz4 R4
      obtain⟨zs6,⟨d6,hd6,C6⟩,R6,hz6⟩:=(tintFns.done c D (D.cursor+1) hr).at hz5 R5
      obtain⟨zs7,⟨d7,hd7,C7⟩,R7,hz7⟩:=(je (c:=c) (D:=D.done (D.cursor+1)) (x:=D.cursor+1) (y:=0) (by omega) (by omega) (by omega) (by omega)).at hz6 R6
      simp only[hff,if_false]
      exact⟨zs7,⟨d1+d2+d3+d4+d5+d6+d7,by omega,Bi k0 hk' hm C1 C2 C3 C4 C5 C6 C7⟩,R7⟩
  ·have e:D.bv=false:=by unfold Wd.bv;simp[hk]
   unfold Wd.tally
   rw[e,if_neg (by decide)]
   exact⟨zs2,⟨d1+d2,by omega,Ep (by rw[←hN];omega) C1 C2⟩,R2⟩
 ·have e:D.bv=false:=by unfold Wd.bv;simp[hp]
  unfold Wd.tally
  rw[e,if_neg (by decide)]
  exact⟨zs2,⟨d1+d2,by omega,yn hp C1 C2⟩,R2⟩
theorem San.move(S:San D)(x y:Int):San (D.move x y):=S.same_but rfl rfl rfl rfl (fun b hb=>.inl hb)
theorem San.aW(S:San D)(x:Int):San (D.aW x):=S.mark x (fun _=>rfl) (fun _=>rfl) (fun _=>rfl)
theorem San.done(S:San D)(x:Int):San (D.done x):=S.mark x (fun _=>rfl) (fun _=>rfl) (fun _=>rfl)
theorem San.tally(S:San D):San D.tally:=by
 unfold Wd.tally
 split
 ·unfold Wd.dV
  split
  ·exact S.move _ _
  ·split
   ·exact S.move _ _
   ·split
    ·exact(S.aW _).move _ _
    ·exact(S.done _).move _ _
 ·exact S
theorem iR.dP(h:iR k D)(q:Int):D.dP q≤(k:Int):=by
 unfold Wd.dP
 split
 ·omega
 ·rename_i t hf
  have:=h q t hf
  split<;>omega
theorem iR.aW(h:iR k D)(x:Int):iR (k+1) (D.aW x):=by
 have hs:=h.dP x
 exact h.mark x _ (Nat.le_succ k) (fun t ht=>by have:=h x t ht;show t.mr.refs≤_∧D.dP x+1≤_;omega)
theorem iR.done(h:iR k D)(x:Int):iR k (D.done x):=h.keep x _ (fun _=>Int.le_refl _) (fun _=>Int.le_refl _)
theorem iR.move(h:iR k D)(x y:Int):iR k (D.move x y):=h.ts rfl
theorem iR.tally(h:iR k D):iR (k+1) D.tally:=by
 have h':=h.mono (Nat.le_succ k)
 unfold Wd.tally
 split
 ·unfold Wd.dV
  split
  ·exact h'.move _ _
  ·split
   ·exact h'.move _ _
   ·split
    ·exact(h.aW _).move _ _
    ·exact(h'.done _).move _ _
 ·exact h'
theorem DW:D.tally.ts.map Th.h=D.ts.map Th.h:=by
 unfold Wd.tally
 split
 ·unfold Wd.dV
  split
  ·rfl
  ·split
   ·rfl
   ·split
    ·show(D.aW _).ts.map Th.h=_
     unfold Wd.aW
     exact dI _ _
    ·show(D.done _).ts.map Th.h=_
     unfold Wd.done
     exact dI _ _
 ·rfl
theorem PInv.tally(I:PInv c k D):PInv c (k+1) D.tally:=I.to I.san.tally I.bd.tally DW
end
section
variable {w wr w':World} {p:Pl} {q lo m k n:Nat} {c:Cf} {D D2 D':Wd} {t u:Th} {r i x y sp sd:Int}
theorem ld_begin(ph:Int)(h0:0≤ph)(h3:ph≤3):Does c D 21 [.int .i64 ph] 5 (D.begin ph) (.bool true):=by
 have h:=tintFns.begin_ c D ph
 have e:phB ph=true:=decide_eq_true ⟨h0,h3⟩
 unfold Wd.nH at h
 rw[e,if_pos rfl] at h
 exact h
theorem PInv.begin_(I:PInv c k D)(ph:Int):PInv c (k+1) (D.begin ph):=I.to (I.san.same_but rfl rfl rfl rfl (fun b hb=>.inl hb)) ((I.bd.mono (Nat.le_succ k)).ts rfl) rfl
theorem qd(h:D.bv=false):D.tally=D:=by unfold Wd.tally;rw[h];rfl
end
section
variable {D:Wd} {x:Int}
end
theorem iP{P:Th→Prop}{g:Th→Th}(hg:∀t,P t→P (g t))(r:Int):∀{l:List Th},(∀t,t∈l→P t)→∀t,t∈bz r g l→P t
 |[],_,t,ht=>by simp[bz] at ht
 |u::l,h,t,ht=>by
  unfold bz at ht
  split at ht
  ·rcases List.mem_cons.1 ht with rfl|ht
   ·exact hg u (h u (by simp))
   ·exact h t (List.mem_cons_of_mem _ ht)
  ·rcases List.mem_cons.1 ht with rfl|ht
   ·exact h _ (List.mem_cons_self ..)
   ·exact iP hg r (fun t ht=>h t (List.mem_cons_of_mem _ ht)) t ht
def eP(D:Wd):Prop:=D.parity=0∧∀t,t∈D.ts→t.mr.count=0∧t.mr.shade=0
section
variable {D D':Wd} {x y r:Int}
theorem eP.new(n w:Nat):eP (Wd.new n w):=⟨rfl,fun t ht=>by simp[Wd.new] at ht⟩
theorem eP.mark(h:eP D)(r:Int){f:Mrk→Mrk}(hf:∀m,m.count=0∧m.shade=0→(f m).count=0∧(f m).shade=0):eP (D.mark r f):=
 ⟨h.1,iP (P:=fun t=>t.mr.count=0∧t.mr.shade=0) (fun t ht=>hf t.mr ht) r h.2⟩
theorem eP.mkD(h:eP D)(x y:Int):eP (D.mkD x y):=by
 unfold Wd.mkD
 by_cases hE:D.mkE x y=0
 ·rw[if_pos hE]
  refine⟨h.1,fun t ht=> ?_⟩
  rcases List.mem_append.1 (show t∈D.ts++[_] from ht) with ht|ht
  ·exact h.2 t ht
  ·obtain rfl:=List.mem_singleton.1 ht
   exact⟨rfl,rfl⟩
 ·rw[if_neg hE]
  exact h
theorem eP.dye(h:eP D)(r:Int):eP (D.dye r):=h.mark r (fun m _=>⟨h.1,h.1⟩)
theorem eP.grow(h:eP D)(x y:Int):eP (D.grow x y):=by
 unfold Wd.grow
 split
 ·exact(h.mkD x y).dye _
 ·exact h
theorem eP.setP(h:eP D)(r:Int)(i:Nat)(x:Int):eP (D.setP r i x):=⟨h.1,iP (P:=fun t=>t.mr.count=0∧t.mr.shade=0) (g:=fun t=>{t with pt:=t.pt.set i x}) (fun t ht=>ht) r h.2⟩
theorem eP.tie(h:eP D)(r:Int)(i:Nat)(x:Int):eP ((D.setP r i x).up x):=(h.setP r i x).mark _ (fun m hm=>hm)
theorem iw{q:Int}{t:Th}:∀{l:List Th},aP q l=some t→t∈l
 |u::l,h=>by
  unfold aP at h
  split at h
  ·cases h
   simp
  ·exact List.mem_cons_of_mem _ (iw h)
theorem eP.dP(h:eP D)(hp:D'.parity=1)(ht:D'.ts=D.ts)(q:Int):D'.dP q=0:=by
 unfold Wd.dP
 cases hf:D'.find q with
 |none=>rfl
 |some t=>
  have hm:t∈D.ts:=by rw[←ht];exact iw hf
  simp only
  rw[if_neg (by rw[(h.2 t hm).2,hp];decide)]
end
theorem DX{D:Wd}(h:D.phase≠1):D.bv=false:=by
 unfold Wd.bv
 rw[decide_eq_false h]
 rfl
def uY(h f:Nat)(u:Th):Nat:=if u.h<h then u.pt.length else if u.h=h then f else 0
def Ev(q:Int)(h f:Nat)(u:Th):Nat:=dN q (u.pt.take (uY h f u))
theorem oD(q:Int):∀(l:List Int) {f:Nat},f<l.length→dN q (l.take (f+1))=dN q (l.take f)+if nth l f=q then 1 else 0
 |[],f,h=>by simp at h
 |a::l,0,_=>by simp[dN,nth]
 |a::l,f+1,h=>by
  have:=oD q l (f:=f) (by simpa using h)
  have e:nth (a::l) (f+1)=nth l f:=rfl
  rw[e]
  simp only[List.take_succ_cons,dN]
  omega
theorem lI{φ ψ:Th→Nat}{t:Th}{d:Nat}:∀{l:List Th},((aM l).map Th.h).Nodup→t∈aM l→ψ t=φ t+d→(∀u,u∈aM l→u.h≠t.h→ψ u=φ u)→au ψ l=au φ l+d
 |[],_,h,_,_=>by simp[aM] at h
 |u::l,hn,h,hd,ho=>by
  rw[aV,aV]
  rw[az] at hn h ho
  cases hu:u.ended with
  |true=>
   rw[hu] at hn h ho
   simp at hn h ho ⊢
   exact lI (φ:=φ) (ψ:=ψ) hn h hd ho
  |false=>
   rw[hu] at hn h ho
   simp at hn h ho ⊢
   rcases h with rfl|h
   ·have:au ψ l=au φ l:=dU (fun v hv=>ho.2 v hv (fun e=>hn.1 v hv e))
    omega
   ·have h1:=lI (φ:=φ) (ψ:=ψ) hn.2 h hd ho.2
    have h2:=ho.1 (fun e=>hn.1 t h e.symm)
    omega
section
variable {D D':Wd} {t u:Th} {N s h f:Nat} {q x r:Int}
theorem pU(S:San D)(hs:u∈(D.aW x).live):∃v,v∈D.live∧u.h=v.h∧u.mr.count=v.mr.count:=by
 unfold Wd.aW at hs
 obtain⟨v,hv,e1,_,h2⟩:=gP S hs
 exact⟨v,hv,e1,by rcases h2 with⟨_,h2⟩|⟨_,h2⟩<;>rw[h2]⟩
theorem vg(S:San D)(hs:u∈(D.done x).live):∃v,v∈D.live∧u.h=v.h∧((v.h:Int)+1=x∧u.mr.count=D.parity∨(v.h:Int)+1≠x∧u.mr.count=v.mr.count):=by
 unfold Wd.done at hs
 obtain⟨v,hv,e1,_,h2⟩:=gP S hs
 exact⟨v,hv,e1,by
  rcases h2 with⟨h,h2⟩|⟨h,h2⟩
  ·exact .inl ⟨h,by rw[h2]⟩
  ·exact .inr ⟨h,by rw[h2]⟩⟩
structure CI (N s h f:Nat) (D:Wd):Prop where
 san:San D
 cu:D.cursor=(h:Int)
 fi:D.field=(f:Int)
 ph:D.phase=1
 n:D.n=N
 hN:h≤N
 ct:∀t,t∈D.live→(t.mr.count=D.parity↔t.h<h)
 fz:f=0∨∃t,t∈D.live∧t.h=h∧f≤t.pt.length
 sh:∀q t,D.find q=some t→D.dP q=((au (Ev q h f) D.ts:Nat):Int)
 st:s=h+au (uY h f) D.ts
 hlt:∀t,t∈D.live→t.h<N
 bd:N+au (fun t=>t.pt.length) D.ts≤16*N
theorem San.sS(S:San D)(ht:t∈D.live)(hu:u∈D.live)(e:u.h=t.h):u=t:=by
 have h1:=S.findIt ht
 have h2:=S.findIt hu
 rw[e,h1] at h2
 exact(Option.some.inj h2).symm
theorem CI.skip(I:CI N s h f D)(hk:h<N)(hf:D.find ((h:Int)+1)=none):CI N (s+1) (h+1) 0 (D.move ((h:Int)+1) 0):=by
 have hno:∀u,u∈D.live→u.h≠h:=fun u hu e=>by
  have:=I.san.findIt hu
  rw[e,hf] at this
  cases this
 have f0:f=0:=by
  rcases I.fz with h0|⟨t,ht,e,_⟩
  ·exact h0
  ·exact absurd e (hno t ht)
 subst f0
 have hc:∀u,u∈aM D.ts→uY (h+1) 0 u=uY h 0 u:=fun u hu=>by
  have:=hno u hu
  unfold uY
  by_cases h1:u.h<h
  ·rw[if_pos h1,if_pos (by omega)]
  ·rw[if_neg h1,if_neg (by omega)]
   split<;>first|rfl|(split<;>rfl)
 refine⟨I.san.move _ _,rfl,rfl,I.ph,I.n,hk,fun t ht=> ?_,.inl rfl,fun q t hq=> ?_,?_,I.hlt,I.bd⟩
 ·have:=hno t ht
  exact(I.ct t ht).trans (by omega)
 ·show D.dP q=((au (Ev q (h+1) 0) D.ts:Nat):Int)
  rw[I.sh q t hq,dU (φ:=Ev q (h+1) 0) (ψ:=Ev q h 0) (fun u hu=>by unfold Ev;rw[hc u hu])]
 ·show s+1=h+1+au (uY (h+1) 0) D.ts
  rw[dU hc]
  have:=I.st
  omega
theorem CI.deep(I:CI N s h f D)(hf:D.find ((h:Int)+1)=some t)(hff:f<t.pt.length):CI N (s+1) h (f+1) ((D.aW (nth t.pt f)).move (h:Int) ((f:Int)+1)):=by
 obtain⟨htl,e⟩:=find_live hf
 have e:t.h=h:=by omega
 have hch:∀u,u∈aM D.ts→u.h≠t.h→uY h (f+1) u=uY h f u:=fun u hu hne=>by
  unfold uY
  split
  ·rfl
  ·rw[if_neg (by omega),if_neg (by omega)]
 have hct:uY h (f+1) t=uY h f t+1:=by
  unfold uY
  rw[if_neg (by omega),if_pos e,if_neg (by omega),if_pos e]
 have hm:∀φ:Th→Nat,(∀(t:Th) (m:Mrk),φ {t with mr:=m}=φ t)→au φ (D.aW (nth t.pt f)).ts=au φ D.ts:=fun φ hφ=>dY _ (fun t=>hφ t _)
 refine⟨(I.san.aW _).move _ _,rfl,by show(f:Int)+1=_;omega,I.ph,I.n,I.hN,fun s hs=> ?_,?_,fun q v hq=> ?_,?_,fun s hs=> ?_,?_⟩
 ·obtain⟨v,hv,e1,e2⟩:=pU I.san (show s∈(D.aW (nth t.pt f)).live from hs)
  rw[e1,e2]
  exact I.ct v hv
 ·refine .inr ?_
  have hfm:=find_mark (D:=D) (r:=nth t.pt f) (fun m=>{m with shade:=D.parity,shadow:=D.dP (nth t.pt f)+1}) ((h:Int)+1)
  rw[hf] at hfm
  simp only[Option.map_some] at hfm
  have hl:=(find_live hfm).1
  by_cases ha:t.at (nth t.pt f)=true
  ·rw[if_pos ha] at hl
   exact⟨_,hl,e,hff⟩
  ·rw[if_neg ha] at hl
   exact⟨_,hl,e,hff⟩
 ·show(D.aW (nth t.pt f)).dP q=((au (Ev q h (f+1)) (D.aW (nth t.pt f)).ts:Nat):Int)
  have hq:(D.aW (nth t.pt f)).find q=some v:=hq
  rw[hm _ (fun _ _=>rfl)]
  have hs1:au (Ev q h (f+1)) D.ts=au (Ev q h f) D.ts+if nth t.pt f=q then 1 else 0:=by
   refine lI (t:=t) I.san.nd htl ?_ (fun u hu hne=>by unfold Ev;rw[hch u hu hne])
   have:=oD q t.pt hff
   have h1:uY h f t=f:=by unfold uY;rw[if_neg (by omega),if_pos e]
   unfold Ev
   rw[hct,h1,this]
  rw[hs1]
  have hfm:=find_mark (D:=D) (r:=nth t.pt f) (fun m=>{m with shade:=D.parity,shadow:=D.dP (nth t.pt f)+1}) q
  have hq2:(D.aW (nth t.pt f)).find q=(D.find q).map (fun u=>if u.at (nth t.pt f) then {u with mr:={u.mr with shade:=D.parity,shadow:=D.dP (nth t.pt f)+1}} else u):=hfm
  cases hv:D.find q with
  |none=>
   rw[hv] at hq2
   rw[hq2] at hq
   cases hq
  |some u=>
   rw[hv] at hq2
   simp only[Option.map_some] at hq2
   have hu:=find_live hv
   have h0:=I.sh q u hv
   have hat:(u.at (nth t.pt f)=true)↔nth t.pt f=q:=by
    have:=(bH (t:=u)).1 hu.1
    unfold Th.at
    rw[this.2]
    simp
    rw[hu.2]
    exact eq_comm
   by_cases ha:nth t.pt f=q
   ·rw[if_pos ha]
    rw[if_pos (hat.2 ha)] at hq2
    have:(D.aW (nth t.pt f)).dP q=D.dP (nth t.pt f)+1:=by
     show(match(D.aW (nth t.pt f)).find q with|none=>0|some t=>if t.mr.shade=D.parity then t.mr.shadow else 0)=_
     rw[hq2]
     simp
    rw[this,ha,h0]
    omega
   ·rw[if_neg ha]
    rw[if_neg (fun h=>ha (hat.1 h))] at hq2
    have:(D.aW (nth t.pt f)).dP q=D.dP q:=by
     show(match(D.aW (nth t.pt f)).find q with|none=>0|some t=>if t.mr.shade=D.parity then t.mr.shadow else 0)=(match D.find q with|none=>0|some t=>if t.mr.shade=D.parity then t.mr.shadow else 0)
     rw[hq2,hv]
    rw[this,h0]
    omega
 ·show s+1=h+au (uY h (f+1)) (D.aW (nth t.pt f)).ts
  rw[hm _ (fun _ _=>rfl),lI (φ:=uY h f) (t:=t) I.san.nd htl hct hch]
  have:=I.st
  omega
 ·obtain⟨v,hv,e1,_⟩:=pU I.san (show s∈(D.aW (nth t.pt f)).live from hs)
  rw[e1]
  exact I.hlt v hv
 ·show N+au _ (D.aW (nth t.pt f)).ts≤_
  rw[hm _ (fun _ _=>rfl)]
  exact I.bd
theorem CI.done(I:CI N s h f D)(hk:h<N)(hf:D.find ((h:Int)+1)=some t)(hff:¬f<t.pt.length):CI N (s+1) (h+1) 0 ((D.done ((h:Int)+1)).move ((h:Int)+1) 0):=by
 obtain⟨htl,e⟩:=find_live hf
 have e:t.h=h:=by omega
 have ef:f=t.pt.length:=by
  rcases I.fz with h0|⟨u,hu,e2,h2⟩
  ·omega
  ·rw[I.san.sS htl hu (by omega)] at h2
   omega
 have hch:∀u,u∈aM D.ts→uY (h+1) 0 u=uY h f u:=fun u hu=>by
  unfold uY
  by_cases h1:u.h<h
  ·rw[if_pos h1,if_pos (by omega)]
  ·rw[if_neg h1]
   by_cases h2:u.h=h
   ·rw[if_pos h2,if_pos (by omega),I.san.sS htl hu (by omega),ef]
   ·rw[if_neg h2,if_neg (by omega)]
    split<;>rfl
 have hm:∀φ:Th→Nat,(∀(t:Th) (m:Mrk),φ {t with mr:=m}=φ t)→au φ (D.done ((h:Int)+1)).ts=au φ D.ts:=fun φ hφ=>dY _ (fun t=>hφ t _)
 refine⟨(I.san.done _).move _ _,by show(h:Int)+1=_;omega,rfl,I.ph,I.n,hk,fun s hs=> ?_,.inl rfl,fun q v hq=> ?_,?_,fun s hs=> ?_,?_⟩
 ·obtain⟨v,hv,e1,h2⟩:=vg I.san (show s∈(D.done ((h:Int)+1)).live from hs)
  have h3:=I.ct v hv
  show s.mr.count=D.parity↔_
  rcases h2 with⟨k,h2⟩|⟨k,h2⟩
  ·rw[h2]
   exact⟨fun _=>by omega,fun _=>rfl⟩
  ·rw[h2,h3]
   omega
 ·show(D.done ((h:Int)+1)).dP q=((au (Ev q (h+1) 0) (D.done ((h:Int)+1)).ts:Nat):Int)
  have hq:(D.done ((h:Int)+1)).find q=some v:=hq
  rw[hm _ (fun _ _=>rfl),dU (φ:=Ev q (h+1) 0) (ψ:=Ev q h f) (fun u hu=>by unfold Ev;rw[hch u hu])]
  have hq2:(D.done ((h:Int)+1)).find q=(D.find q).map (fun u=>if u.at ((h:Int)+1) then {u with mr:={u.mr with count:=D.parity}} else u):=find_mark (D:=D) (r:=(h:Int)+1) (fun m=>{m with count:=D.parity}) q
  cases hv:D.find q with
  |none=>
   rw[hv] at hq2
   rw[hq2] at hq
   cases hq
  |some u=>
   rw[hv] at hq2
   simp only[Option.map_some] at hq2
   have:(D.done ((h:Int)+1)).dP q=D.dP q:=by
    show(match(D.done ((h:Int)+1)).find q with|none=>0|some t=>if t.mr.shade=D.parity then t.mr.shadow else 0)=(match D.find q with|none=>0|some t=>if t.mr.shade=D.parity then t.mr.shadow else 0)
    rw[hq2,hv]
    cases u.at ((h:Int)+1)<;>rfl
   rw[this]
   exact I.sh q u hv
 ·show s+1=h+1+au (uY (h+1) 0) (D.done ((h:Int)+1)).ts
  rw[hm _ (fun _ _=>rfl),dU hch]
  have:=I.st
  omega
 ·obtain⟨v,hv,e1,_⟩:=vg I.san (show s∈(D.done ((h:Int)+1)).live from hs)
  rw[e1]
  exact I.hlt v hv
 ·show N+au _ (D.done ((h:Int)+1)).ts≤_
  rw[hm _ (fun _ _=>rfl)]
  exact I.bd
theorem CI.tally(I:CI N s h f D)(hk:h<N):∃h' f',CI N (s+1) h' f' D.tally:=by
 have e:D.bv=true:=by
  unfold Wd.bv
  rw[I.ph,I.cu,I.n]
  simp[hk]
 unfold Wd.tally
 rw[e,if_pos rfl,I.cu]
 cases hf:D.find ((h:Int)+1) with
 |none=>
  unfold Wd.dV
  simp only
  rw[I.cu]
  exact⟨_,_,I.skip hk hf⟩
 |some t=>
  obtain⟨htl,e2⟩:=find_live hf
  unfold Wd.dV
  simp only
  rw[if_neg (fun hc=>by have:=(I.ct t htl).1 hc;omega),I.cu,I.fi]
  by_cases hff:f<t.pt.length
  ·rw[if_pos (by omega)]
   exact⟨_,_,I.deep hf hff⟩
  ·rw[if_neg (by omega)]
   exact⟨_,_,I.done hk hf hff⟩
theorem CI.tb(I:CI N s h f D):D.bv=decide (h<N):=by
 unfold Wd.bv
 rw[I.ph,I.cu,I.n]
 simp
end
def Gs(P C F:Int)(u:Th):Nat:=if u.mr.count=P then u.pt.length else if(u.h:Int)=C then F.toNat else 0
def kU(P C F q:Int)(u:Th):Nat:=dN q (u.pt.take (Gs P C F u))
def Wd.ph(D:Wd)(q:Int):Th→Nat:=kU D.parity D.cursor D.field q
def sv(P:Int)(m:Mrk):Int:=if m.shade=P then m.shadow else 0
structure qi (E:Int→Prop) (D:Wd):Prop where
 sh:∀s,s∈D.live→¬E ((s.h:Int)+1)→s.mr.dead=false→s.mr.color≠D.parity→sv D.parity s.mr=((au (D.ph ((s.h:Int)+1)) D.ts:Nat):Int)
 ct:∀s,s∈D.live→(s.h:Int)<D.cursor→s.mr.count=D.parity
def yt(D D':Wd):Prop:=D'.parity=D.parity∧D'.cursor=D.cursor∧D'.field=D.field∧D'.phase=D.phase
theorem yt.refl(D:Wd):yt D D:=⟨rfl,rfl,rfl,rfl⟩
theorem yt.trans{D D' D2:Wd}(h:yt D D')(k:yt D' D2):yt D D2:=⟨k.1.trans h.1,k.2.1.trans h.2.1,k.2.2.1.trans h.2.2.1,k.2.2.2.trans h.2.2.2⟩
section
variable {D D':Wd} {E E':Int→Prop} {t s u:Th} {r x y q:Int} {g:Th→Th} {P C F:Int}
theorem Fu{m:Mrk}(h:m.count=t.mr.count):kU P C F q {t with mr:=m}=kU P C F q t:=by
 unfold kU Gs
 rw[show({t with mr:=m}:Th).mr.count=t.mr.count from h]
theorem Lp(h:yt D D'):D'.ph q=D.ph q:=by unfold Wd.ph;rw[h.1,h.2.1,h.2.2.1]
theorem qi.same(H:qi E D)(h:D'.ts=D.ts)(k:yt D D'):qi E D':=by
 have hl:D'.live=D.live:=by unfold Wd.live;rw[h]
 refine⟨fun s hs he hd hc=> ?_,fun s hs hc=> ?_⟩
 ·rw[hl] at hs
  rw[k.1] at hc ⊢
  rw[Lp k,h]
  exact H.sh s hs he hd hc
 ·rw[hl] at hs
  rw[k.2.1] at hc
  rw[k.1]
  exact H.ct s hs hc
theorem qi.upd(H:qi E D)(S:San D)(hf:D.find r=some t)(hts:D'.ts=bz r g D.ts)(k:yt D D')(he:(g t).ended=false)(hh:(g t).h=t.h)
  (hp:∀q,q≠0→¬E' q→D.ph q (g t)=D.ph q t) (hc:t.mr.count=D.parity→(g t).mr.count=D.parity)
  (hs:¬E' ((t.h:Int)+1)→(g t).mr.dead=false→(g t).mr.color≠D.parity→¬E ((t.h:Int)+1)∧t.mr.dead=false∧t.mr.color≠D.parity∧sv D.parity (g t).mr=sv D.parity t.mr)
  (hE:∀q,E q→E' q):qi E' D':=by
 have htl:=(find_live hf).1
 have hm:∀s,s∈D'.live→s=g t∨(s∈D.live∧s.h≠t.h):=fun s h=>by
  unfold Wd.live at h
  rw[hts] at h
  exact bD S.nd hf h
 have hsum:∀q,q≠0→¬E' q→au (D'.ph q) D'.ts=au (D.ph q) D.ts:=fun q h0 h1=>by
  rw[Lp k,hts]
  have h2:=fG (φ:=D.ph q) hf he
  rw[hp q h0 h1] at h2
  omega
 refine⟨fun s h h1 h2 h3=> ?_,fun s h h1=> ?_⟩
 ·rw[hsum _ (by omega) h1]
  rw[k.1] at h3 ⊢
  rcases hm s h with rfl|⟨h4,_⟩
  ·rw[hh] at h1 ⊢
   obtain⟨k1,k2,k3,k4⟩:=hs h1 h2 h3
   rw[k4]
   exact H.sh t htl k1 k2 k3
  ·exact H.sh s h4 (fun e=>h1 (hE _ e)) h2 h3
 ·rw[k.2.1] at h1
  rw[k.1]
  rcases hm s h with rfl|⟨h4,_⟩
  ·rw[hh] at h1
   exact hc (H.ct t htl h1)
  ·exact H.ct s h4 h1
theorem qi.mark(H:qi E D)(S:San D)(r:Int){f:Mrk→Mrk}(hc:∀m,(f m).count=m.count)(hs:∀m,(f m).dead=false→(f m).color≠D.parity→m.dead=false∧m.color≠D.parity∧sv D.parity (f m)=sv D.parity m):qi E (D.mark r f):=by
 cases hf:D.find r with
 |none=>rw[bG f hf];exact H
 |some t=>
  refine H.upd (E':=E) (g:=fun t=>{t with mr:=f t.mr}) S hf rfl ⟨rfl,rfl,rfl,rfl⟩ (find_at hf).2.1 rfl (fun q _ _=>Fu (hc _)) (fun h=>(hc _).trans h) (fun h1 h2 h3=> ?_) (fun _ h=>h)
  obtain⟨k1,k2,k3⟩:=hs t.mr h2 h3
  exact⟨h1,k1,k2,k3⟩
theorem gF(r:Int):yt D (D.touch r):=by
 unfold Wd.touch
 split<;>exact⟨rfl,rfl,rfl,rfl⟩
theorem qi.paint(H:qi E D)(S:San D)(r:Int):qi E (D.paint r):=H.mark S r (f:=fun m=>{m with color:=D.parity}) (fun _=>rfl) (fun m _ h=>absurd rfl h)
theorem qi.touch(H:qi E D)(S:San D)(r:Int):qi E (D.touch r):=by
 unfold Wd.touch
 split
 ·exact(H.paint S r).same rfl ⟨rfl,rfl,rfl,rfl⟩
 ·exact H
variable {hold:Nat→Nat}
theorem touched(S:San D)(hp:D.phase≠0):∀s,s∈(D.touch x).live→(s.h:Int)+1=x→s.mr.dead=false→s.mr.color=D.parity:=fun s hs e hd=>by
 unfold Wd.touch at hs
 cases ht:D.toucht x with
 |true=>
  rw[ht,if_pos rfl] at hs
  have hs2:s∈(D.paint x).live:=hs
  obtain⟨v,hv,e1,_,h⟩:=gP S hs2
  rcases h with⟨_,h⟩|⟨k,_⟩
  ·rw[h]
  ·exact absurd (by omega) k
 |false=>
  rw[ht,if_neg (by decide)] at hs
  have:=S.findIt hs
  rw[e] at this
  unfold Wd.toucht at ht
  rw[this] at ht
  simp only[hd,Bool.not_false,Bool.and_true] at ht
  simp[hp] at ht
  exact ht
theorem AP(S:San D)(hs:s∈D.live):D.dP ((s.h:Int)+1)=sv D.parity s.mr:=by
 unfold Wd.dP
 rw[S.findIt hs]
 rfl
theorem qi.tally(H:qi E D)(S:San D)(hF:0≤D.field):qi E D.tally:=by
 unfold Wd.tally
 cases hb:D.bv with
 |false=>rw[if_neg (by decide)];exact H
 |true=>
  rw[if_pos rfl]
  unfold Wd.dV
  cases hf:D.find (D.cursor+1) with
  |none=>
   simp only
   have hno:∀u,u∈D.live→(u.h:Int)≠D.cursor:=fun u hu e=>by
    have:=S.findIt hu
    rw[e,hf] at this
    cases this
   have hph:∀q u,u∈aM D.ts→(D.move (D.cursor+1) 0).ph q u=D.ph q u:=fun q u hu=>by
    have:=hno u hu
    show kU D.parity (D.cursor+1) 0 q u=kU D.parity D.cursor D.field q u
    unfold kU Gs
    rw[if_neg this]
    split
    ·rfl
    ·split<;>rfl
   refine⟨fun s hs h1 h2 h3=> ?_,fun s hs h1=> ?_⟩
   ·rw[show(D.move (D.cursor+1) 0).ts=D.ts from rfl,dU (hph _)]
    exact H.sh s hs h1 h2 h3
   ·have h1:(s.h:Int)<D.cursor+1:=h1
    have:=hno s hs
    exact H.ct s hs (by omega)
  |some t=>
   simp only
   obtain⟨htl,e⟩:=find_live hf
   have e:(t.h:Int)=D.cursor:=by omega
   have hun:∀u,u∈D.live→(u.h:Int)=D.cursor→u=t:=fun u hu h=>S.sS htl hu (by omega)
   by_cases hct:t.mr.count=D.parity
   ·rw[if_pos hct]
    have hph:∀q u,u∈aM D.ts→(D.move (D.cursor+1) 0).ph q u=D.ph q u:=fun q u hu=>by
     show kU D.parity (D.cursor+1) 0 q u=kU D.parity D.cursor D.field q u
     unfold kU Gs
     by_cases hc:u.mr.count=D.parity
     ·rw[if_pos hc,if_pos hc]
     ·rw[if_neg hc,if_neg hc,if_neg (show ¬(u.h:Int)=D.cursor from fun h=>hc (by rw[hun u hu h];exact hct))]
      split<;>rfl
    refine⟨fun s hs h1 h2 h3=> ?_,fun s hs h1=> ?_⟩
    ·rw[show(D.move (D.cursor+1) 0).ts=D.ts from rfl,dU (hph _)]
     exact H.sh s hs h1 h2 h3
    ·have h1:(s.h:Int)<D.cursor+1:=h1
     by_cases h4:(s.h:Int)=D.cursor
     ·rw[hun s hs h4]
      exact hct
     ·exact H.ct s hs (by omega)
   ·rw[if_neg hct]
    by_cases hff:D.field<(t.pt.length:Int)
    ·rw[if_pos hff]
     obtain⟨f,hfe⟩:=Int.eq_ofNat_of_zero_le hF
     have hfl:f<t.pt.length:=by omega
     have hft:D.field.toNat=f:=by omega
     rw[hft]
     have hsum:∀q,au (((D.aW (nth t.pt f)).move D.cursor (D.field+1)).ph q) ((D.aW (nth t.pt f)).move D.cursor (D.field+1)).ts=au (D.ph q) D.ts+if nth t.pt f=q then 1 else 0:=fun q=>by
      have h1:au (kU D.parity D.cursor (D.field+1) q) (D.aW (nth t.pt f)).ts=au (kU D.parity D.cursor (D.field+1) q) D.ts:=dY _ (fun t=>Fu rfl)
      have h2:au (kU D.parity D.cursor (D.field+1) q) D.ts=au (D.ph q) D.ts+if nth t.pt f=q then 1 else 0:=by
       refine lI (t:=t) S.nd htl ?_ (fun u hu hne=> ?_)
       ·have h3:=oD q t.pt hfl
        show kU D.parity D.cursor (D.field+1) q t=kU D.parity D.cursor D.field q t+_
        unfold kU Gs
        rw[if_neg hct,if_neg hct,if_pos e,if_pos e,hft,show(D.field+1).toNat=f+1 by omega]
        exact h3
       ·show kU D.parity D.cursor (D.field+1) q u=kU D.parity D.cursor D.field q u
        unfold kU Gs
        rw[if_neg (show ¬(u.h:Int)=D.cursor by omega),if_neg (show ¬(u.h:Int)=D.cursor by omega)]
      exact h1.trans h2
     refine⟨fun s hs h1 h2 h3=> ?_,fun s hs h1=> ?_⟩
     ·rw[hsum]
      have hs2:s∈(D.mark (nth t.pt f) (fun m=>{m with shade:=D.parity,shadow:=D.dP (nth t.pt f)+1})).live:=hs
      show sv D.parity s.mr=_
      have h3:s.mr.color≠D.parity:=h3
      obtain⟨v,hv,e1,_,hm⟩:=gP S hs2
      rcases hm with⟨k1,k2⟩|⟨k1,k2⟩
      ·rw[k2] at h2 h3 ⊢
       rw[e1] at h1 ⊢
       have h4:=H.sh v hv h1 h2 h3
       have h5:=AP S hv
       rw[if_pos k1.symm]
       unfold sv
       rw[if_pos rfl]
       show D.dP (nth t.pt f)+1=_
       rw[←k1,h5,h4]
       omega
      ·rw[k2] at h2 h3 ⊢
       rw[e1] at h1 ⊢
       rw[if_neg (fun h=>k1 h.symm),H.sh v hv h1 h2 h3]
       rfl
     ·have h1:(s.h:Int)<D.cursor:=h1
      obtain⟨v,hv,e1,e2⟩:=pU S (show s∈(D.aW (nth t.pt f)).live from hs)
      rw[e2]
      exact H.ct v hv (by omega)
    ·rw[if_neg hff]
     have hsum:∀q,au (((D.done (D.cursor+1)).move (D.cursor+1) 0).ph q) ((D.done (D.cursor+1)).move (D.cursor+1) 0).ts=au (D.ph q) D.ts:=fun q=>by
      have h1:=fG (φ:=kU D.parity (D.cursor+1) 0 q) (g:=fun t=>{t with mr:={t.mr with count:=D.parity}}) hf (find_at hf).2.1
      have h2:kU D.parity (D.cursor+1) 0 q {t with mr:={t.mr with count:=D.parity}}=D.ph q t:=by
       show _=kU D.parity D.cursor D.field q t
       unfold kU Gs
       rw[if_pos rfl,if_neg hct,if_pos e,List.take_of_length_le (Nat.le_refl _),List.take_of_length_le (by omega)]
      have h3:kU D.parity (D.cursor+1) 0 q t=0:=by
       unfold kU Gs
       rw[if_neg hct,if_neg (by omega)]
       rfl
      have h4:au (D.ph q) D.ts=au (kU D.parity (D.cursor+1) 0 q) D.ts+D.ph q t:=by
       refine lI (t:=t) S.nd htl (by omega) (fun u hu hne=> ?_)
       show kU D.parity D.cursor D.field q u=kU D.parity (D.cursor+1) 0 q u
       unfold kU Gs
       rw[if_neg (show ¬(u.h:Int)=D.cursor by omega)]
       split
       ·rfl
       ·split<;>rfl
      have h5:((D.done (D.cursor+1)).move (D.cursor+1) 0).ts=bz (D.cursor+1) (fun t=>{t with mr:={t.mr with count:=D.parity}}) D.ts:=rfl
      rw[h5]
      show au (kU D.parity (D.cursor+1) 0 q) _=_
      omega
     refine⟨fun s hs h1 h2 h3=> ?_,fun s hs h1=> ?_⟩
     ·rw[hsum]
      have hs2:s∈(D.mark (D.cursor+1) (fun m=>{m with count:=D.parity})).live:=hs
      show sv D.parity s.mr=_
      have h3:s.mr.color≠D.parity:=h3
      obtain⟨v,hv,e1,_,hm⟩:=gP S hs2
      rcases hm with⟨k1,k2⟩|⟨k1,k2⟩
      ·rw[k2] at h2 h3 ⊢
       rw[e1] at h1 ⊢
       exact H.sh v hv h1 h2 h3
      ·rw[k2] at h2 h3 ⊢
       rw[e1] at h1 ⊢
       exact H.sh v hv h1 h2 h3
     ·have h1:(s.h:Int)<D.cursor+1:=h1
      obtain⟨v,hv,e1,h4⟩:=vg S (show s∈(D.done (D.cursor+1)).live from hs)
      rcases h4 with⟨_,h4⟩|⟨k1,h4⟩
      ·exact h4
      ·rw[h4]
       exact H.ct v hv (by omega)
theorem uj:D.tally.phase=D.phase∧D.tally.parity=D.parity:=by
 unfold Wd.tally
 split
 ·unfold Wd.dV
  split
  ·exact⟨rfl,rfl⟩
  ·split
   ·exact⟨rfl,rfl⟩
   ·split<;>exact⟨rfl,rfl⟩
 ·exact⟨rfl,rfl⟩
theorem eP.same(h:eP D)(k:D'.ts=D.ts)(hp:D'.parity=D.parity):eP D':=⟨hp.trans h.1,by rw[k];exact h.2⟩
theorem eP.upd(h:eP D)(k:D'.ts=bz r g D.ts)(hp:D'.parity=D.parity)(hg:∀t,(g t).mr.count=t.mr.count∧(g t).mr.shade=t.mr.shade):eP D':=
 ⟨hp.trans h.1,by rw[k];exact iP (P:=fun t=>t.mr.count=0∧t.mr.shade=0) (fun t ht=>by rw[(hg t).1,(hg t).2];exact ht) r h.2⟩
theorem eP.touch(h:eP D)(r:Int):eP (D.touch r):=by
 rcases iO (D:=D) r with k|k
 ·exact h.same k (gF r).1
 ·exact(h.mark r (f:=fun m=>{m with color:=D.parity}) (fun m hm=>hm)).same k (gF r).1
theorem eP.bury(h:eP D)(x:Int):eP (D.bury x):=by
 unfold Wd.bury
 split
 ·exact h
 ·split
  ·exact h
  ·exact h.upd (gI x _) rfl (fun _=>⟨rfl,rfl⟩)
def TM(D:Wd):Prop:=(D.phase=0∧eP D)∨(D.phase=1∧qi (fun _=>False) D)
theorem TM.begin_(T:TM D)(h0:D.phase=0):TM (D.turn.begin 1):=by
 rcases T with⟨h,k⟩|⟨h,k⟩
 ·refine .inr ⟨rfl,?_,?_⟩
  ·intro s hs _ _ _
   have hp:(D.turn.begin 1).parity=1:=by
    show 1-D.parity=1
    rw[k.1]
    rfl
   have hm:=k.2 s (bH.1 (show s∈aM D.ts from hs)).1
   rw[hp]
   unfold sv
   rw[if_neg (by rw[hm.2];decide),jN (fun u hu=> ?_)]
   ·rfl
   ·have hu2:=k.2 u (bH.1 (show u∈aM D.ts from hu)).1
    show kU (D.turn.begin 1).parity 0 0 _ u=0
    rw[hp]
    unfold kU Gs
    rw[if_neg (by rw[hu2.1];decide)]
    split<;>rfl
  ·intro s hs h1
   have h1:(s.h:Int)<0:=h1
   omega
 ·omega
end
section
variable (D:Wd)
def Wd.jr:Option Th→Wd
 |none=>{D with scan:=0}
 |some t=>if D.scanF<(t.pt.length:Int) then {D.touch (nth t.pt D.scanF.toNat) with scanF:=D.scanF+1} else {D with scan:=0}
def Wd.settle(r:Int):Wd:=D.mark r (fun m=>{m with shade:=D.parity,shadow:=D.dP r})
def Wd.bI(r:Int):Option Th→Wd
 |none=>D
 |some t=>if t.mr.dead then D else if D.dP r<t.mr.refs then(D.settle r).touch r else D.settle r
def Wd.Ac:Wd:={D.bI (D.cursor+1) (D.find (D.cursor+1)) with cursor:=D.cursor+1}
def Wd.bu:Bool:=decide (D.phase=2)&&(!decide (D.scan=0)|| !D.ring.isEmpty||decide (D.cursor<(D.n:Int)))
def Wd.aT:Wd:=
 if D.bu then
  if D.scan=0 then
   match D.ring with
   |b::rest=>{D with ring:=rest,scan:=(b:Int)+1,scanF:=0}
   |[]=>D.Ac
  else D.jr (D.find D.scan)
 else D
end
def OA(D:Wd)(x:Int):Prop:=∀v,v∈D.live→(v.h:Int)+1=x→v.mr.dead=true∨v.mr.color=D.parity
def qj(D:Wd):Prop:=∀u,u∈D.live→u.mr.dead=false→u.mr.color=D.parity→∀i,i<u.pt.length→u.h∈D.ring∨((u.h:Int)+1=D.scan∧D.scanF≤(i:Int))∨OA D (nth u.pt i)
def RH(D D':Wd):Prop:=D'.parity=D.parity∧D'.scan=D.scan∧D'.scanF=D.scanF
section
variable {D D':Wd} {t u v:Th} {r x y:Int} {g:Th→Th}
theorem qj.upd(H:qj D)(S:San D)(hf:D.find r=some t)(hts:D'.ts=bz r g D.ts)(hp:D'.parity=D.parity)(hsc:∀u:Th,u.mr.dead=false→(u.h:Int)+1=D.scan→u∈D'.live→D'.scan=D.scan)(hsf:D'.scanF=D.scanF)(hh:(g t).h=t.h)
  (hr:∀u:Th,u∈D'.live→u.mr.dead=false→u.h∈D.ring→u.h∈D'.ring)
  (hd:(g t).mr.dead=false→(g t).mr.color=D.parity→t.mr.dead=false∧t.mr.color=D.parity∧(g t).pt=t.pt)
  (hb:t.mr.dead=true∨t.mr.color=D.parity→(g t).mr.dead=true∨(g t).mr.color=D.parity):qj D':=by
 have htl:=(find_live hf).1
 have hm:∀s,s∈D'.live→s=g t∨(s∈D.live∧s.h≠t.h):=fun s h=>by
  unfold Wd.live at h
  rw[hts] at h
  exact bD S.nd hf h
 have hN:∀x,OA D x→OA D' x:=fun x h v hv e=>by
  rw[hp]
  rcases hm v hv with rfl|⟨k,_⟩
  ·rw[hh] at e
   exact hb (h t htl e)
  ·exact h v k e
 intro u hu h1 h2 i hi
 rw[hp] at h2
 have key:∀s,s∈D.live→s.mr.dead=false→s.mr.color=D.parity→s.h=u.h→s.pt=u.pt→u.h∈D'.ring∨((u.h:Int)+1=D'.scan∧D'.scanF≤(i:Int))∨OA D' (nth u.pt i):=fun s hs k1 k2 e1 e2=>by
  rcases H s hs k1 k2 i (by rw[e2];exact hi) with h|h|h
  ·exact .inl (hr u hu h1 (by rw[←e1];exact h))
  ·refine .inr (.inl ?_)
   have e3:(u.h:Int)+1=D.scan:=by rw[←e1];exact h.1
   rw[hsc u h1 e3 hu,hsf]
   exact⟨e3,h.2⟩
  ·exact .inr (.inr (hN _ (by rw[←e2];exact h)))
 rcases hm u hu with rfl|⟨k,_⟩
 ·obtain⟨k1,k2,k3⟩:=hd h1 h2
  exact key t htl k1 k2 hh.symm k3.symm
 ·exact key u k h1 h2 rfl rfl
theorem qj.mark(H:qj D)(S:San D)(r:Int){f:Mrk→Mrk}(hd:∀m,(f m).dead=m.dead)(hc:∀m,(f m).color=m.color):qj (D.mark r f):=by
 cases hf:D.find r with
 |none=>rw[bG f hf];exact H
 |some t=>exact H.upd (g:=fun t=>{t with mr:=f t.mr}) S hf rfl rfl (fun _ _ _ _=>rfl) rfl rfl (fun _ _ _ h=>h) (fun h1 h2=>⟨(hd _).symm.trans h1,(hc _).symm.trans h2,rfl⟩) (fun h=>by rw[show(({t with mr:=f t.mr}:Th).mr.dead)=t.mr.dead from hd _,show(({t with mr:=f t.mr}:Th).mr.color)=t.mr.color from hc _];exact h)
theorem qj.same(H:qj D)(h:D'.ts=D.ts)(h2:D'.ring=D.ring)(k:RH D D'):qj D':=by
 have hl:D'.live=D.live:=by unfold Wd.live;rw[h]
 unfold qj OA at*
 rw[hl,h2,k.1,k.2.1,k.2.2]
 exact H
theorem CL{x:Int}:∀{l:List Nat},hasB (ints l) x=true→x.toNat∈l
 |[],h=>by simp[ints,hasB] at h
 |a::l,h=>by
  by_cases e:(a:Int)=x
  ·have:x.toNat=a:=by omega
   rw[this]
   exact List.mem_cons_self ..
  ·refine List.mem_cons_of_mem _ (CL ?_)
   unfold hasB ints at h ⊢
   simp at h ⊢
   rcases h with h|h
   ·exact absurd h e
   ·exact h
theorem qj.touch(H:qj D)(S:San D)(r:Int):qj (D.touch r):=by
 cases ht:D.toucht r with
 |false=>
  have e:D.touch r=D:=by unfold Wd.touch;rw[ht];rfl
  rw[e]
  exact H
 |true=>
  cases hf:D.find r with
  |none=>unfold Wd.toucht at ht;rw[hf] at ht;cases ht
  |some t=>
   obtain⟨htl,er⟩:=find_live hf
   have e:D.touch r={D.paint r with ring:=if hasB (ints D.ring) (r-1) then D.ring else D.ring++[(r-1).toNat]}:=by unfold Wd.touch;rw[ht];rfl
   have hth:t.h=(r-1).toNat:=by omega
   have hin:t.h∈(D.touch r).ring:=by
    rw[e]
    show t.h∈(if hasB (ints D.ring) (r-1) then D.ring else D.ring++[(r-1).toNat])
    split
    ·rename_i hb
     rw[hth]
     exact CL hb
    ·rw[hth]
     simp
   have hri:∀b,b∈D.ring→b∈(D.touch r).ring:=fun b hb=>by
    rw[e]
    show b∈(if hasB (ints D.ring) (r-1) then D.ring else D.ring++[(r-1).toNat])
    split
    ·exact hb
    ·exact List.mem_append_left _ hb
   have hsc:(D.touch r).scan=D.scan∧(D.touch r).scanF=D.scanF∧(D.touch r).parity=D.parity:=by rw[e];exact⟨rfl,rfl,rfl⟩
   have hm:∀s,s∈(D.touch r).live→s={t with mr:={t.mr with color:=D.parity}}∨(s∈D.live∧s.h≠t.h):=fun s h=>by
    rw[e] at h
    exact bD (g:=fun t=>{t with mr:={t.mr with color:=D.parity}}) S.nd hf h
   intro u hu h1 h2 i hi
   rcases hm u hu with rfl|⟨k,_⟩
   ·exact .inl hin
   ·rw[hsc.2.2] at h2
    rcases H u k h1 h2 i hi with h|h|h
    ·exact .inl (hri _ h)
    ·exact .inr (.inl (by rw[hsc.1,hsc.2.1];exact h))
    ·refine .inr (.inr (fun v hv e2=> ?_))
     rw[hsc.2.2]
     rcases hm v hv with rfl|⟨k2,_⟩
     ·exact .inr rfl
     ·exact h v k2 e2
theorem Jp(S:San D)(hp:D.phase≠0)(x:Int):OA (D.touch x) x:=fun v hv e=>by
 cases hd:v.mr.dead with
 |true=>exact .inl rfl
 |false=>exact .inr ((touched S hp v hv e hd).trans (gF x).1.symm)
theorem qj.tally(H:qj D)(S:San D):qj D.tally:=by
 unfold Wd.tally
 split
 ·unfold Wd.dV
  split
  ·exact H.same rfl rfl ⟨rfl,rfl,rfl⟩
  ·split
   ·exact H.same rfl rfl ⟨rfl,rfl,rfl⟩
   ·split
    ·exact(H.mark S _ (f:=fun m=>{m with shade:=D.parity,shadow:=D.dP (nth _ D.field.toNat)+1}) (fun _=>rfl) (fun _=>rfl)).same rfl rfl ⟨rfl,rfl,rfl⟩
    ·exact(H.mark S _ (f:=fun m=>{m with count:=D.parity}) (fun _=>rfl) (fun _=>rfl)).same rfl rfl ⟨rfl,rfl,rfl⟩
 ·exact H
theorem San.jm(S:San D)(o:Option Th):San (D.jr o):=by
 unfold Wd.jr
 split
 ·exact S.same_but rfl rfl rfl rfl (fun b hb=>.inl hb)
 ·split
  ·exact(S.touch _).same_but rfl rfl rfl rfl (fun b hb=>.inl hb)
  ·exact S.same_but rfl rfl rfl rfl (fun b hb=>.inl hb)
theorem San.settle(S:San D)(r:Int):San (D.settle r):=S.mark r (fun _=>rfl) (fun _=>rfl) (fun _=>rfl)
theorem San.bI(S:San D)(r:Int)(o:Option Th):San (D.bI r o):=by
 unfold Wd.bI
 split
 ·exact S
 ·split
  ·exact S
  ·split
   ·exact(S.settle r).touch r
   ·exact S.settle r
theorem San.aT(S:San D):San D.aT:=by
 unfold Wd.aT
 split
 ·split
  ·split
   ·rename_i b rest hr
    exact S.same_but rfl rfl rfl rfl (fun c hc=>.inl (by rw[hr];exact List.mem_cons_of_mem _ hc))
   ·exact(S.bI _ _).same_but rfl rfl rfl rfl (fun b hb=>.inl hb)
  ·exact S.jm _
 ·exact S
theorem qj.bI(H:qj D)(S:San D)(r:Int)(o:Option Th):qj (D.bI r o):=by
 have hs:qj (D.settle r):=H.mark S r (f:=fun m=>{m with shade:=D.parity,shadow:=D.dP r}) (fun _=>rfl) (fun _=>rfl)
 unfold Wd.bI
 split
 ·exact H
 ·split
  ·exact H
  ·split
   ·exact hs.touch (S.settle r) r
   ·exact hs
theorem qj.aT(H:qj D)(S:San D)(hF:0≤D.scanF):qj D.aT:=by
 unfold Wd.aT
 cases hb:D.bu with
 |false=>rw[if_neg (by decide)];exact H
 |true=>
  rw[if_pos rfl]
  have hp:D.phase≠0:=by
   unfold Wd.bu at hb
   simp at hb
   omega
  by_cases hs:D.scan=0
  ·rw[if_pos hs]
   cases hr:D.ring with
   |nil=>exact(H.bI S _ _).same rfl rfl ⟨rfl,rfl,rfl⟩
   |cons b rest=>
    intro u hu h1 h2 i hi
    rcases H u hu h1 h2 i hi with h|h|h
    ·rw[hr] at h
     rcases List.mem_cons.1 h with h|h
     ·exact .inr (.inl ⟨by show(u.h:Int)+1=(b:Int)+1;rw[h],by show(0:Int)≤_;omega⟩)
     ·exact .inl h
    ·omega
    ·exact .inr (.inr h)
  ·rw[if_neg hs]
   unfold Wd.jr
   cases hf:D.find D.scan with
   |none=>
    simp only
    intro u hu h1 h2 i hi
    rcases H u hu h1 h2 i hi with h|h|h
    ·exact .inl h
    ·have:=S.findIt hu
     rw[h.1,hf] at this
     cases this
    ·exact .inr (.inr h)
   |some t=>
    simp only
    obtain⟨htl,er⟩:=find_live hf
    by_cases hff:D.scanF<(t.pt.length:Int)
    ·rw[if_pos hff]
     have H1:=H.touch S (nth t.pt D.scanF.toNat)
     have hsc:(D.touch (nth t.pt D.scanF.toNat)).scan=D.scan∧(D.touch (nth t.pt D.scanF.toNat)).scanF=D.scanF:=by
      unfold Wd.touch
      split<;>exact⟨rfl,rfl⟩
     intro u hu h1 h2 i hi
     rcases H1 u hu h1 h2 i hi with h|h|h
     ·exact .inl h
     ·rw[hsc.1,hsc.2] at h
      by_cases e:(i:Int)=D.scanF
      ·refine .inr (.inr ?_)
       have hut:u.pt=t.pt:=by
        obtain⟨k,hk⟩:=touch_mark D.scan hf (nth t.pt D.scanF.toNat)
        have h3:=(S.touch (nth t.pt D.scanF.toNat)).findIt hu
        rw[h.1,hk] at h3
        rw[←Option.some.inj h3]
       have hit:i=D.scanF.toNat:=by omega
       rw[hut,hit]
       exact Jp S hp _
      ·refine .inr (.inl ⟨?_,?_⟩)
       ·show _=(D.touch (nth t.pt D.scanF.toNat)).scan
        rw[hsc.1]
        exact h.1
       ·show D.scanF+1≤(i:Int)
        omega
     ·exact .inr (.inr h)
    ·rw[if_neg hff]
     intro u hu h1 h2 i hi
     rcases H u hu h1 h2 i hi with h|h|h
     ·exact .inl h
     ·have h3:=S.findIt hu
      rw[h.1,hf] at h3
      rw[←Option.some.inj h3] at hi
      omega
     ·exact .inr (.inr h)
theorem qj.Kq(H:qj D)(h1:D.phase=2)(hb:D.bu=false):∀u,u∈D.live→u.mr.dead=false→u.mr.color=D.parity→∀i,i<u.pt.length→OA D (nth u.pt i):=fun u hu k1 k2 i hi=>by
 unfold Wd.bu at hb
 rw[decide_eq_true h1] at hb
 simp at hb
 rcases H u hu k1 k2 i hi with h|h|h
 ·rw[hb.1.2] at h
  cases h
 ·omega
 ·exact h
theorem qj.turn(h:∀t,t∈D.live→t.mr.color=0)(hp:D.parity=0):qj (D.turn.begin 1):=fun u hu h1 h2 i hi=>by
 have h3:=h u hu
 have h4:(D.turn.begin 1).parity=1:=by
  show 1-D.parity=1
  rw[hp]
  rfl
 rw[h3,h4] at h2
 cases h2
end
theorem Rt:∀x:Nat,x<128→x ^^^ 16=if x/16%2=0 then x+16 else x-16:=by decide
theorem Oz{x:Int}(hx:dB x)(hk:bF x):bits .xor .u32 x 16=dD x (uC x) (uN x) (1-uS x) (uD x):=by
 obtain⟨hr,h128,h0⟩:=hx
 unfold bY at hr
 unfold bF at hk
 have hlt:x<128:=by
  have h1:uO x=0:=by omega
  unfold uO at h1
  omega
 obtain⟨X,rfl⟩:=Int.eq_ofNat_of_zero_le h0
 rw[u32_xor _ _ (by omega) (by omega) (by omega) (by omega),Int.toNat_natCast,show(16:Int).toNat=16 from rfl,Rt X (by omega)]
 unfold dD bZ uK uC uN uS uD uG
 split<;>omega
theorem Ia{r:Int}{t:Th}{g:Th→Th}:∀{l:List Th},aP r l=some t→g t=t→bz r g l=l
 |u::l,h,hg=>by
  unfold aP at h
  unfold bz
  cases hu:u.at r with
  |true=>
   rw[hu] at h
   simp at h
   subst h
   rw[if_pos rfl,hg]
  |false=>
   rw[hu] at h
   simp at h
   rw[if_neg (by simp),Ia h hg]
section
variable {c:Cf} {zs:List Int} {D:Wd} {t:Th} {r:Int}
theorem Jh(hf:D.find r=some t)(h:t.mr.shade=D.parity):D.settle r=D:=by
 have hs:D.dP r=t.mr.shadow:=by unfold Wd.dP;rw[hf];simp only;rw[if_pos h]
 have:bz r (fun t=>{t with mr:={t.mr with shade:=D.parity,shadow:=D.dP r}}) D.ts=D.ts:=Ia (t:=t) hf (by
  show({t with mr:={t.mr with shade:=D.parity,shadow:=D.dP r}}:Th)=t
  rw[hs,←h])
 show({D with ts:=bz r (fun t=>{t with mr:={t.mr with shade:=D.parity,shadow:=D.dP r}}) D.ts}:Wd)=D
 rw[this]
theorem tZ(hf:D.find r=some t):(D.settle r).find r=some {t with mr:={t.mr with shade:=D.parity,shadow:=D.dP r}}:=mark_find _ hf
theorem FJ(hf:D.find r=some t):(D.settle r).dP r=D.dP r:=by
 show(match(D.settle r).find r with|none=>0|some t=>if t.mr.shade=D.parity then t.mr.shadow else 0)=_
 rw[tZ hf]
 simp
theorem FI(hf:D.find r=some t):(D.settle r).cnt r=t.mr.refs:=by
 unfold Wd.cnt
 rw[tZ hf]
theorem Jm(R:av c zs D)(hz:Wz c zs)(hf:D.find r=some t)(hs:t.mr.shade≠D.parity):
  av c ((zs.set (adr c t.h 0) (dD (nth zs (adr c t.h 0)) (uC (nth zs (adr c t.h 0))) (uN (nth zs (adr c t.h 0))) (1-uS (nth zs (adr c t.h 0))) (uD (nth zs (adr c t.h 0))))).set (adr c t.h 4) 0) (D.settle r):=by
 obtain⟨h1,h2,h3,h4,h5⟩:=R.fH hf
 have hp:=R.par
 have h01:=(bC (nth zs (adr c t.h 0))).2.2.1
 have e1:1-uS (nth zs (adr c t.h 0))=D.parity:=by
  have:=h5.cS
  omega
 have es:D.dP r=0:=by unfold Wd.dP;rw[hf];simp only;rw[if_neg hs]
 rw[e1]
 have R1:=sQ R hf hz (bC _).1 (bC _).2.1 R.par (.inl rfl) (fun m=>{m with shade:=D.parity}) (by simp only;rw[h5.cC,h5.cN,h5.yE])
 have R2:=R1.nZ hz.may (by simp;exact hz.len) (mark_find _ hf) (v:=4) (.inr rfl) (x:=0) (f:=fun m=>{m with shadow:=0}) rfl
 rw[lm] at R2
 unfold Wd.settle
 rw[es]
 exact R2
theorem Ea(R:av c zs D)(hz:Wz c zs){b:Nat}{rest:List Nat}(hr:D.ring=b::rest):av c (aY c b zs) {D with ring:=rest}:=by
 obtain⟨u,hu,e⟩:=R.uL hz.may (x:=b) (by rw[hr];exact List.mem_cons_self ..)
 have hf:=R.findIt hu
 have h:=wN R hz hf (by rw[hr,e];exact List.mem_cons_self ..)
 have hnd:=R.ring.nd
 rw[hr,List.nodup_cons] at hnd
 have e2:D.lessRing u.h={D with ring:=rest}:=by
  unfold Wd.lessRing
  congr 1
  rw[hr,e,List.filter_cons_of_neg (by simp)]
  exact List.filter_eq_self.2 (fun x hx=>by
   have:x≠b:=fun e3=>hnd.1 (by rw[←e3];exact hx)
   simpa using this)
 rw[e2,e] at h
 exact h
theorem av.AB(R:av c zs D)(hz:Wz c zs)(x:Int):av c (zs.set 14 x) {D with scan:=x}:=by
 refine R.jv hz.may hz.len (k:=14) (by omega) (by omega) rfl rfl rfl rfl rfl rfl rfl rfl (fun j h1 h2 h3=> ?_) R.par
 have:j=10∨j=11∨j=12∨j=13∨j=15∨j=16∨j=17∨j=18:=by omega
 rcases this with rfl|rfl|rfl|rfl|rfl|rfl|rfl|rfl<;>rfl
theorem av.Dw(R:av c zs D)(hz:Wz c zs)(x:Int):av c (zs.set 15 x) {D with scanF:=x}:=by
 refine R.jv hz.may hz.len (k:=15) (by omega) (by omega) rfl rfl rfl rfl rfl rfl rfl rfl (fun j h1 h2 h3=> ?_) R.par
 have:j=10∨j=11∨j=12∨j=13∨j=14∨j=16∨j=17∨j=18:=by omega
 rcases this with rfl|rfl|rfl|rfl|rfl|rfl|rfl|rfl<;>rfl
theorem av.scans(R:av c zs D)(hz:Wz c zs):(0≤D.scan∧D.scan≤4294967295)∧0≤D.scanF∧D.scanF≤4294967295:=by
 have h1:=R.reg 14 (by omega) (by omega)
 have h2:=R.reg 15 (by omega) (by omega)
 have e1:D.reg 14=D.scan:=rfl
 have e2:D.reg 15=D.scanF:=rfl
 rw[e1] at h1
 rw[e2] at h2
 have b1:=hz.wf 14
 have b2:=hz.wf 15
 rw[←h1,←h2]
 exact⟨b1,b2⟩
end
structure nu (D D':Wd):Prop where
 par:D'.parity=D.parity
 sc:D.scan=0→D'.scan=0
 sf:0≤D.scanF→0≤D'.scanF
 mem:∀s,s∈D'.live→(s.mr.color=D.parity∧s.mr.count=D.parity)∨∃v,v∈D.live∧s.h=v.h∧(s.mr.dead=false→v.mr.dead=false)∧(v.mr.color=D.parity→s.mr.color=D.parity)∧(v.mr.count=D.parity→s.mr.count=D.parity)
def Ex(D:Wd):Prop:=∀u,u∈D.live→u.mr.count=D.parity
def VH(hold:Nat→Nat)(D:Wd):Prop:=∀u,u∈D.live→u.mr.dead=false→0<hold u.h→(u.h:Int)<D.cursor→u.mr.color=D.parity
section
variable {D D' D2:Wd} {t u v s:Th} {r x y:Int} {g:Th→Th} {E:Int→Prop} {hold hold':Nat→Nat}
theorem nu.refl(D:Wd):nu D D:=⟨rfl,fun h=>h,fun h=>h,fun s hs=>.inr ⟨s,hs,rfl,fun h=>h,fun h=>h,fun h=>h⟩⟩
theorem nu.trans(h:nu D D')(k:nu D' D2):nu D D2:=⟨k.par.trans h.par,fun e=>k.sc (h.sc e),fun e=>k.sf (h.sf e),fun s hs=>by
 rcases k.mem s hs with⟨a,b⟩|⟨v,hv,e1,e2,e3,e4⟩
 ·exact .inl ⟨a.trans h.par,b.trans h.par⟩
 ·rw[h.par] at e3 e4
  rcases h.mem v hv with⟨a,b⟩|⟨u,hu,f1,f2,f3,f4⟩
  ·exact .inl ⟨e3 a,e4 b⟩
  ·exact .inr ⟨u,hu,e1.trans f1,fun z=>f2 (e2 z),fun z=>e3 (f3 z),fun z=>e4 (f4 z)⟩⟩
theorem nu.same(h:D'.ts=D.ts)(hp:D'.parity=D.parity)(hs:D'.scan=D.scan)(hf:D'.scanF=D.scanF):nu D D':=by
 have hl:D'.live=D.live:=by unfold Wd.live;rw[h]
 refine⟨hp,fun e=>hs.trans e,fun e=>by rw[hf];exact e,fun s hs=> ?_⟩
 rw[hl] at hs
 exact .inr ⟨s,hs,rfl,fun h=>h,fun h=>h,fun h=>h⟩
theorem nu.upd(S:San D)(hf:D.find r=some t)(hts:D'.ts=bz r g D.ts)(hp:D'.parity=D.parity)(hs:D.scan=0→D'.scan=0)(hsf:D'.scanF=D.scanF)(hh:(g t).h=t.h)(h1:(g t).mr.dead=false→t.mr.dead=false)(h2:t.mr.color=D.parity→(g t).mr.color=D.parity)(h3:t.mr.count=D.parity→(g t).mr.count=D.parity):nu D D':=
 ⟨hp,hs,fun e=>by rw[hsf];exact e,fun s k=>by
  unfold Wd.live at k
  rw[hts] at k
  rcases bD S.nd hf k with rfl|⟨k,_⟩
  ·exact .inr ⟨t,(find_live hf).1,hh,h1,h2,h3⟩
  ·exact .inr ⟨s,k,rfl,fun h=>h,fun h=>h,fun h=>h⟩⟩
theorem nu.mark(S:San D)(r:Int){f:Mrk→Mrk}(h1:∀m,(f m).dead=false→m.dead=false)(h2:∀m,m.color=D.parity→(f m).color=D.parity)(h3:∀m,m.count=D.parity→(f m).count=D.parity):nu D (D.mark r f):=by
 cases hf:D.find r with
 |none=>rw[bG f hf];exact nu.refl D
 |some t=>exact nu.upd (g:=fun t=>{t with mr:=f t.mr}) S hf rfl rfl (fun h=>h) rfl rfl (h1 _) (h2 _) (h3 _)
theorem nu.touch(S:San D)(r:Int):nu D (D.touch r):=by
 unfold Wd.touch
 split
 ·exact(nu.mark S r (f:=fun m=>{m with color:=D.parity}) (fun _ h=>h) (fun _ _=>rfl) (fun _ h=>h)).trans (nu.same rfl rfl rfl rfl)
 ·exact nu.refl D
theorem Ex.MR(A:Ex D)(h:nu D D'):Ex D':=fun u hu=>by
 rw[h.par]
 rcases h.mem u hu with⟨_,k⟩|⟨v,hv,_,_,_,k⟩
 ·exact k
 ·exact k (A v hv)
theorem VH.MR(V:VH hold D)(h:nu D D')(hc:D'.cursor=D.cursor)(hh:∀b,hold' b≤hold b):VH hold' D':=fun u hu h1 h2 h3=>by
 rw[h.par]
 rw[hc] at h3
 rcases h.mem u hu with⟨k,_⟩|⟨v,hv,e1,e2,e3,_⟩
 ·exact k
 ·rw[e1] at h2 h3
  exact e3 (V v hv (e2 h1) (Nat.lt_of_lt_of_le h2 (hh _)) h3)
theorem qi.cursor(H:qi E D)(A:Ex D)(k:Int):qi E {D with cursor:=k}:=by
 refine⟨fun s hs h1 h2 h3=> ?_,fun s hs _=>A s hs⟩
 have e:au (({D with cursor:=k}:Wd).ph ((s.h:Int)+1)) D.ts=au (D.ph ((s.h:Int)+1)) D.ts:=dU (fun u hu=>by
  show kU D.parity k D.field _ u=kU D.parity D.cursor D.field _ u
  unfold kU Gs
  rw[if_pos (A u hu),if_pos (A u hu)])
 show sv D.parity s.mr=((au (({D with cursor:=k}:Wd).ph ((s.h:Int)+1)) D.ts:Nat):Int)
 rw[e]
 exact H.sh s hs h1 h2 h3
theorem qi.settle(H:qi E D)(S:San D)(r:Int):qi E (D.settle r):=by
 unfold Wd.settle
 cases hf:D.find r with
 |none=>rw[bG _ hf];exact H
 |some t=>
  obtain⟨htl,er⟩:=find_live hf
  refine H.upd (E':=E) (g:=fun u=>{u with mr:={u.mr with shade:=D.parity,shadow:=D.dP r}}) S hf rfl ⟨rfl,rfl,rfl,rfl⟩ (find_at hf).2.1 rfl (fun q _ _=>Fu rfl) (fun h=>h) (fun h1 h2 h3=>⟨h1,h2,h3,?_⟩) (fun _ h=>h)
  have:=AP S htl
  rw[er] at this
  unfold sv at this ⊢
  rw[if_pos rfl]
  exact this
theorem qi.bI(H:qi E D)(S:San D)(r:Int)(o:Option Th):qi E (D.bI r o):=by
 unfold Wd.bI
 split
 ·exact H
 ·split
  ·exact H
  ·split
   ·exact(H.settle S r).touch (S.settle r) r
   ·exact H.settle S r
theorem nu.settle(S:San D)(r:Int):nu D (D.settle r):=nu.mark S r (f:=fun m=>{m with shade:=D.parity,shadow:=D.dP r}) (fun _ h=>h) (fun _ h=>h) (fun _ h=>h)
theorem nu.bI(S:San D)(r:Int)(o:Option Th):nu D (D.bI r o):=by
 unfold Wd.bI
 split
 ·exact nu.refl D
 ·split
  ·exact nu.refl D
  ·split
   ·exact(nu.settle S r).trans (nu.touch (S.settle r) r)
   ·exact nu.settle S r
theorem rY(r:Int)(o:Option Th):yt D (D.bI r o):=by
 unfold Wd.bI
 split
 ·exact yt.refl D
 ·split
  ·exact yt.refl D
  ·split
   ·exact yt.trans (D':=D.settle r) ⟨rfl,rfl,rfl,rfl⟩ (gF r)
   ·exact⟨rfl,rfl,rfl,rfl⟩
structure FL (hold:Nat→Nat) (D:Wd):Prop where
 ho:qi (fun _=>False) D
 tri:qj D
 al:Ex D
 vh:VH hold D
 sf:0≤D.scanF
theorem FL.aT(F:FL hold D)(S:San D)(N:fP hold D)(hk:0≤D.cursor):FL hold D.aT:=by
 have ht:=F.tri.aT S F.sf
 unfold Wd.aT at ht ⊢
 cases hb:D.bu with
 |false=>rw[if_neg (by decide)];exact F
 |true=>
  rw[hb,if_pos rfl] at ht
  rw[if_pos rfl]
  have hp:D.phase=2:=by
   unfold Wd.bu at hb
   simp at hb
   exact hb.1
  by_cases hs:D.scan=0
  ·rw[if_pos hs] at ht ⊢
   cases hr:D.ring with
   |cons b rest=>
    rw[hr] at ht
    exact⟨F.ho.same rfl ⟨rfl,rfl,rfl,rfl⟩,ht,F.al,F.vh,by show(0:Int)≤0;decide⟩
   |nil=>
    rw[hr] at ht
    have hA:=F.al.MR (nu.bI S (D.cursor+1) (D.find (D.cursor+1)))
    have hH:=(F.ho.bI S (D.cursor+1) (D.find (D.cursor+1))).cursor hA (D.cursor+1)
    refine⟨hH,ht,hA,?_,(nu.bI S _ _).sf F.sf⟩
    intro u hu h1 h2 h3
    have h3:(u.h:Int)<D.cursor+1:=h3
    have hu:u∈(D.bI (D.cursor+1) (D.find (D.cursor+1))).live:=hu
    show u.mr.color=(D.bI (D.cursor+1) (D.find (D.cursor+1))).parity
    rw[(nu.bI S (D.cursor+1) (D.find (D.cursor+1))).par]
    by_cases e:(u.h:Int)=D.cursor
    ·cases hf:D.find (D.cursor+1) with
     |none=>
      exfalso
      rw[hf] at hu
      have hu:u∈D.live:=hu
      have:=S.findIt hu
      rw[e,hf] at this
      cases this
     |some t=>
      obtain⟨htl,er⟩:=find_live hf
      rw[hf] at hu
      unfold Wd.bI at hu
      simp only at hu
      by_cases hd:t.mr.dead=true
      ·exfalso
       rw[if_pos hd] at hu
       have e9:u=t:=S.sS htl hu (by omega)
       rw[←e9,h1] at hd
       cases hd
      ·rw[if_neg hd] at hu
       have hsum:au (D.ph ((t.h:Int)+1)) D.ts=au (fI ((t.h:Int)+1)) D.ts:=dU (fun v hv=>by
        show kU D.parity D.cursor D.field _ v=_
        unfold kU Gs fI
        rw[if_pos (F.al v hv),List.take_length])
       have hcnt:=N.cnt t htl
       have hut:u.h=t.h:=by omega
       rw[hut] at h2
       by_cases hcl:t.mr.color=D.parity
       ·have h9:=(nu.bI S (D.cursor+1) (some t)).mem u (by unfold Wd.bI;simp only;rw[if_neg hd];exact hu)
        rcases h9 with⟨k,_⟩|⟨v,hv,e1,_,e3,_⟩
        ·exact k
        ·exact e3 (by rw[S.sS htl hv (by omega)];exact hcl)
       ·have hsv:=F.ho.sh t htl (fun h=>h) (by cases h:t.mr.dead;rfl;exact absurd h hd) hcl
        have hsh:=AP S htl
        rw[er] at hsh
        have hlt:D.dP (D.cursor+1)<t.mr.refs:=by
         rw[hsh,hsv,hsum,hcnt]
         omega
        rw[if_pos hlt] at hu
        have h9:=touched (D:=D.settle (D.cursor+1)) (S.settle _) (by show D.phase≠0;omega) u hu (by omega) h1
        exact h9
    ·rcases (nu.bI S (D.cursor+1) (D.find (D.cursor+1))).mem u hu with⟨k,_⟩|⟨v,hv,e1,e2,e3,_⟩
     ·exact k
     ·exact e3 (F.vh v hv (e2 h1) (by rw[←e1];exact h2) (by omega))
  ·rw[if_neg hs] at ht ⊢
   unfold Wd.jr at ht ⊢
   cases hf:D.find D.scan with
   |none=>
    rw[hf] at ht
    simp only at ht ⊢
    exact⟨F.ho.same rfl ⟨rfl,rfl,rfl,rfl⟩,ht,F.al,F.vh,F.sf⟩
   |some t=>
    rw[hf] at ht
    simp only at ht ⊢
    by_cases hff:D.scanF<(t.pt.length:Int)
    ·rw[if_pos hff] at ht ⊢
     have hw:=nu.touch S (nth t.pt D.scanF.toNat)
     exact⟨(F.ho.touch S _).same rfl ⟨rfl,rfl,rfl,rfl⟩,ht,(show Ex (D.touch (nth t.pt D.scanF.toNat)) from F.al.MR hw),VH.MR (D':={D.touch (nth t.pt D.scanF.toNat) with scanF:=D.scanF+1}) (F.vh.MR hw (gF _).2.1 (fun _=>Nat.le_refl _)) ⟨rfl,fun h=>h,fun h=>by show 0≤D.scanF+1;have:=F.sf;omega,fun s hs=>.inr ⟨s,hs,rfl,fun h=>h,fun h=>h,fun h=>h⟩⟩ rfl (fun _=>Nat.le_refl _),by show 0≤D.scanF+1;have:=F.sf;omega⟩
    ·rw[if_neg hff] at ht ⊢
     exact⟨F.ho.same rfl ⟨rfl,rfl,rfl,rfl⟩,ht,F.al,F.vh,F.sf⟩
theorem tJ:D.aT.phase=D.phase∧D.aT.parity=D.parity∧D.aT.field=D.field:=by
 unfold Wd.aT
 split
 ·split
  ·split
   ·exact⟨rfl,rfl,rfl⟩
   ·exact⟨(rY _ _).2.2.2,(rY _ _).1,(rY _ _).2.2.1⟩
  ·unfold Wd.jr
   split
   ·exact⟨rfl,rfl,rfl⟩
   ·split
    ·exact⟨(gF _).2.2.2,(gF _).1,(gF _).2.2.1⟩
    ·exact⟨rfl,rfl,rfl⟩
 ·exact⟨rfl,rfl,rfl⟩
def Bt(D:Wd):Prop:=eP D∧∀t,t∈D.ts→t.mr.color=0
inductive FM (hold:Nat→Nat) (D:Wd):Prop where
 |idle:D.phase=0→Bt D→FM hold D
 |cnt:D.phase=1→qi (fun _=>False) D→qj D→D.scan=0→FM hold D
 |fl:D.phase=2→FL hold D→FM hold D
theorem Bt.touch(h:Bt D)(r:Int):Bt (D.touch r):=by
 refine⟨h.1.touch r,?_⟩
 rcases iO (D:=D) r with k|k
 ·rw[k]
  exact h.2
 ·rw[k]
  exact iP (P:=fun t=>t.mr.color=0) (g:=fun t=>{t with mr:={t.mr with color:=D.parity}}) (fun t _=>h.1.1) r h.2
theorem Bt.upd(h:Bt D)(hd:eP D')(k:D'.ts=bz r g D.ts)(hg:∀t,(g t).mr.color=t.mr.color):Bt D':=⟨hd,by rw[k];exact iP (P:=fun t=>t.mr.color=0) (fun t ht=>by rw[hg];exact ht) r h.2⟩
theorem Bt.bury(h:Bt D)(x:Int):Bt (D.bury x):=by
 have hd:=h.1.bury x
 unfold Wd.bury at hd ⊢
 split
 ·exact h
 ·rename_i t hf
  rw[hf] at hd
  simp only at hd
  split
  ·exact h
  ·rename_i hn
   rw[if_neg hn] at hd
   exact h.upd (g:=fun s=>{s with mr:={s.mr with dead:=true,left:=(t.pt.length:Int),leaves:=(t.lv.length:Int)}}) hd (gI x _) (fun _=>rfl)
theorem Bt.inter(h:Bt D)(x:Int):Bt (D.inter x):=by
 unfold Wd.inter
 split
 ·exact h.bury x
 ·exact h
theorem Bt.dye(h:Bt D)(r:Int):Bt (D.dye r):=⟨h.1.dye r,iP (P:=fun t=>t.mr.color=0) (g:=fun t=>{t with mr:={t.mr with color:=D.parity,count:=D.parity,shade:=D.parity,shadow:=0}}) (fun t _=>h.1.1) r h.2⟩
theorem wK:D.tally.scan=D.scan:=by
 unfold Wd.tally
 split
 ·unfold Wd.dV
  split
  ·rfl
  ·split
   ·rfl
   ·split<;>rfl
 ·rfl
theorem FM.tally(T:FM hold D)(S:San D)(hF:0≤D.field):FM hold D.tally:=by
 rcases T with⟨h,k⟩|⟨h,k,k2,k3⟩|⟨h,F⟩
 ·rw[qd (DX (by omega))]
  exact .idle h k
 ·exact .cnt (uj.1.trans h) (k.tally S hF) (k2.tally S) (wK.trans k3)
 ·rw[qd (DX (by omega))]
  exact .fl h F
theorem jT(h:D.bu=false):D.aT=D:=by unfold Wd.aT;rw[h];rfl
theorem vw(h:D.phase≠2):D.bu=false:=by unfold Wd.bu;rw[decide_eq_false h];rfl
theorem FM.aT(T:FM hold D)(S:San D)(N:fP hold D)(hk:0≤D.cursor):FM hold D.aT:=by
 rcases T with⟨h,k⟩|⟨h,k,k2,k3⟩|⟨h,F⟩
 ·rw[jT (vw (by omega))]
  exact .idle h k
 ·rw[jT (vw (by omega))]
  exact .cnt h k k2 k3
 ·exact .fl (tJ.1.trans h) (F.aT S N hk)
theorem FM.OW(T:FM hold D)(h0:D.phase=0):FM hold (D.turn.begin 1):=by
 rcases T with⟨h,k⟩|⟨h,_⟩|⟨h,_⟩
 ·rcases TM.begin_ (.inl ⟨h,k.1⟩) h0 with⟨h,_⟩|⟨_,H⟩
  ·cases h
  ·exact .cnt rfl H (qj.turn (fun t ht=>k.2 t (bH.1 ht).1) k.1.1) rfl
 ·omega
 ·omega
theorem FM.Kb{N:Nat}(T:FM hold D)(h0:D.phase=1)(hn:D.n=N)(hb:D.bv=false)(hlt:∀t,t∈D.live→t.h<N):FM hold (D.begin 2):=by
 rcases T with⟨h,k⟩|⟨h,k,k2,k3⟩|⟨h,F⟩
 ·omega
 ·have hcu:(D.n:Int)≤D.cursor:=by
   unfold Wd.bv at hb
   rw[decide_eq_true h0] at hb
   simp at hb
   exact hb
  have A:Ex D:=fun u hu=>k.ct u hu (by have:=hlt u hu;omega)
  refine .fl rfl ⟨⟨fun s hs h1 h2 h3=> ?_,fun s hs _=>A s hs⟩,fun u hu h1 h2 i hi=> ?_,A,fun u hu _ _ h3=> ?_,by show(0:Int)≤0;decide⟩
  ·have e:au ((D.begin 2).ph ((s.h:Int)+1)) D.ts=au (D.ph ((s.h:Int)+1)) D.ts:=dU (fun u hu=>by
    show kU D.parity 0 0 _ u=kU D.parity D.cursor D.field _ u
    unfold kU Gs
    rw[if_pos (A u hu),if_pos (A u hu)])
   show sv D.parity s.mr=((au ((D.begin 2).ph ((s.h:Int)+1)) D.ts:Nat):Int)
   rw[e]
   exact k.sh s hs h1 h2 h3
  ·rcases k2 u hu h1 h2 i hi with h|h|h
   ·exact .inl h
   ·omega
   ·exact .inr (.inr h)
  ·have h3:(u.h:Int)<0:=h3
   omega
 ·omega
theorem FM.Kq{N:Nat}(T:FM hold D)(h1:D.phase=2)(hn:D.n=N)(hb:D.bu=false)(hlt:∀t,t∈D.live→t.h<N):
  (∀u,u∈D.live→u.mr.dead=false→0<hold u.h→u.mr.color=D.parity)∧∀u,u∈D.live→u.mr.dead=false→u.mr.color=D.parity→∀i,i<u.pt.length→OA D (nth u.pt i):=by
 rcases T with⟨h,k⟩|⟨h,k,k2,k3⟩|⟨h,F⟩
 ·omega
 ·omega
 ·refine⟨fun u hu k1 k2=>F.vh u hu k1 k2 ?_,F.tri.Kq h1 hb⟩
  unfold Wd.bu at hb
  rw[decide_eq_true h1] at hb
  simp at hb
  have:=hlt u hu
  omega
end
def mV:Option Th→Nat
 |none=>2
 |some t=>t.pt.length+2
def jm(F:Int):Option Th→Nat
 |none=>1
 |some t=>((t.pt.length:Int)-F).toNat+1
def whiteT(P:Int)(t:Th):Nat:=if t.mr.color=P then 0 else t.pt.length+2
def gT(D:Wd)(l:List Nat):Nat:=(l.map (fun b:Nat=>mV (D.find ((b:Int)+1)))).sum
def pg(D:Wd):Nat:=au (whiteT D.parity) D.ts+gT D D.ring
def xh(D:Wd):Nat:=((D.n:Int)-D.cursor).toNat+pg D+(if D.scan=0 then 0 else jm D.scanF (D.find D.scan))
section
variable {D D':Wd} {t u:Th} {r x:Int} {l:List Nat}
theorem wC(h:∀q,mV (D'.find q)=mV (D.find q)):∀l:List Nat,gT D' l=gT D l:=fun l=>by
 unfold gT
 congr 1
 exact List.map_congr_left (fun b _=>h _)
theorem vP(r:Int)(f:Mrk→Mrk)(q:Int):mV ((D.mark r f).find q)=mV (D.find q):=by
 rw[find_mark]
 cases D.find q with
 |none=>rfl
 |some t=>
  simp only[Option.map_some]
  split<;>rfl
theorem Ff(r:Int)(f:Mrk→Mrk)(F q:Int):jm F ((D.mark r f).find q)=jm F (D.find q):=by
 rw[find_mark]
 cases D.find q with
 |none=>rfl
 |some t=>
  simp only[Option.map_some]
  split<;>rfl
theorem Ec(r q:Int):mV ((D.touch r).find q)=mV (D.find q):=by
 unfold Wd.touch
 split
 ·exact vP (D:=D) r (fun m=>{m with color:=D.parity}) q
 ·rfl
theorem Ed(r F q:Int):jm F ((D.touch r).find q)=jm F (D.find q):=by
 unfold Wd.touch
 split
 ·exact Ff (D:=D) r (fun m=>{m with color:=D.parity}) F q
 ·rfl
theorem Ht(S:San D)(r:Int):pg (D.touch r)≤pg D:=by
 cases ht:D.toucht r with
 |false=>
  have e:D.touch r=D:=by unfold Wd.touch;rw[ht];rfl
  rw[e]
  exact Nat.le_refl _
 |true=>
  cases hf:D.find r with
  |none=>unfold Wd.toucht at ht;rw[hf] at ht;cases ht
  |some t=>
   obtain⟨htl,er⟩:=find_live hf
   have hnb:t.mr.color≠D.parity:=by
    unfold Wd.toucht at ht
    rw[hf] at ht
    simp at ht
    exact ht.2
   have e:D.touch r={D.paint r with ring:=if hasB (ints D.ring) (r-1) then D.ring else D.ring++[(r-1).toNat]}:=by unfold Wd.touch;rw[ht];rfl
   have h1:=fG (φ:=whiteT D.parity) (g:=fun t=>{t with mr:={t.mr with color:=D.parity}}) hf (find_at hf).2.1
   have h2:whiteT D.parity {t with mr:={t.mr with color:=D.parity}}=0:=by unfold whiteT;rw[if_pos rfl]
   have h3:whiteT D.parity t=t.pt.length+2:=by unfold whiteT;rw[if_neg hnb]
   have h4:gT (D.touch r) (D.touch r).ring≤gT D D.ring+(t.pt.length+2):=by
    rw[wC (Ec r)]
    rw[e]
    show gT D (if hasB (ints D.ring) (r-1) then D.ring else D.ring++[(r-1).toNat])≤_
    split
    ·exact Nat.le_add_right _ _
    ·unfold gT
     rw[List.map_append,List.sum_append]
     have e2:(((r-1).toNat:Nat):Int)+1=r:=by omega
     simp only[List.map_cons,List.map_nil,List.sum_cons,List.sum_nil,e2,hf]
     exact Nat.le_refl _
   have h5:au (whiteT (D.touch r).parity) (D.touch r).ts=au (whiteT D.parity) (bz r (fun t=>{t with mr:={t.mr with color:=D.parity}}) D.ts):=by rw[e];rfl
   unfold pg
   rw[h5]
   omega
theorem Dz(r:Int):pg (D.settle r)=pg D:=by
 unfold pg
 have h1:au (whiteT (D.settle r).parity) (D.settle r).ts=au (whiteT D.parity) D.ts:=dY r (fun t=>rfl)
 have h2:gT (D.settle r) (D.settle r).ring=gT D D.ring:=wC (vP r _) D.ring
 rw[h1,h2]
theorem Pz(S:San D)(r:Int)(o:Option Th):pg (D.bI r o)≤pg D:=by
 unfold Wd.bI
 split
 ·exact Nat.le_refl _
 ·split
  ·exact Nat.le_refl _
  ·split
   ·exact Nat.le_trans (Ht (S.settle r) r) (Nat.le_of_eq (Dz r))
   ·exact Nat.le_of_eq (Dz r)
theorem vN(r:Int)(o:Option Th):(D.bI r o).n=D.n∧(D.bI r o).scan=D.scan:=by
 unfold Wd.bI
 split
 ·exact⟨rfl,rfl⟩
 ·split
  ·exact⟨rfl,rfl⟩
  ·split
   ·unfold Wd.touch
    split<;>exact⟨rfl,rfl⟩
   ·exact⟨rfl,rfl⟩
theorem oq(r:Int):(D.touch r).n=D.n∧(D.touch r).scan=D.scan∧(D.touch r).cursor=D.cursor:=by
 unfold Wd.touch
 split<;>exact⟨rfl,rfl,rfl⟩
theorem IZ(S:San D)(hF:0≤D.scanF)(hb:D.bu=true):xh D.aT+1≤xh D:=by
 unfold Wd.aT
 rw[hb,if_pos rfl]
 by_cases hs:D.scan=0
 ·rw[if_pos hs]
  cases hr:D.ring with
  |cons b rest=>
   show((D.n:Int)-D.cursor).toNat+(au (whiteT D.parity) D.ts+gT D rest)+(if(b:Int)+1=0 then 0 else jm 0 (D.find ((b:Int)+1)))+1≤((D.n:Int)-D.cursor).toNat+(au (whiteT D.parity) D.ts+gT D D.ring)+(if D.scan=0 then 0 else jm D.scanF (D.find D.scan))
   rw[if_neg (by omega),if_pos hs,hr]
   have h1:gT D (b::rest)=mV (D.find ((b:Int)+1))+gT D rest:=by unfold gT;simp
   rw[h1]
   cases D.find ((b:Int)+1) with
   |none=>simp only[mV,jm];omega
   |some t=>simp only[mV,jm];omega
  |nil=>
   have hk:D.cursor<(D.n:Int):=by
    unfold Wd.bu at hb
    rw[hr] at hb
    simp[hs] at hb
    exact hb.2
   have h1:=Pz S (D.cursor+1) (D.find (D.cursor+1))
   obtain⟨e1,e2⟩:=vN (D:=D) (D.cursor+1) (D.find (D.cursor+1))
   show(((D.bI (D.cursor+1) (D.find (D.cursor+1))).n:Int)-(D.cursor+1)).toNat+pg (D.bI (D.cursor+1) (D.find (D.cursor+1)))+(if(D.bI (D.cursor+1) (D.find (D.cursor+1))).scan=0 then 0 else _)+1≤((D.n:Int)-D.cursor).toNat+pg D+(if D.scan=0 then 0 else jm D.scanF (D.find D.scan))
   rw[e1,e2,if_pos hs,if_pos hs]
   omega
 ·rw[if_neg hs]
  have hp:xh D=((D.n:Int)-D.cursor).toNat+pg D+jm D.scanF (D.find D.scan):=by unfold xh;rw[if_neg hs]
  rw[hp]
  unfold Wd.jr
  cases hf:D.find D.scan with
  |none=>
   show((D.n:Int)-D.cursor).toNat+pg D+(if(0:Int)=0 then 0 else _)+1≤_
   rw[if_pos rfl]
   exact Nat.le_refl _
  |some t=>
   simp only
   by_cases hff:D.scanF<(t.pt.length:Int)
   ·rw[if_pos hff]
    have h1:=Ht S (nth t.pt D.scanF.toNat)
    obtain⟨e1,e2,e3⟩:=oq (D:=D) (nth t.pt D.scanF.toNat)
    show(((D.touch (nth t.pt D.scanF.toNat)).n:Int)-(D.touch (nth t.pt D.scanF.toNat)).cursor).toNat+pg (D.touch (nth t.pt D.scanF.toNat))+(if(D.touch (nth t.pt D.scanF.toNat)).scan=0 then 0 else jm (D.scanF+1) ((D.touch (nth t.pt D.scanF.toNat)).find (D.touch (nth t.pt D.scanF.toNat)).scan))+1≤_
    rw[e1,e2,e3,if_neg hs,Ed,hf]
    simp only[jm]
    omega
   ·rw[if_neg hff]
    show((D.n:Int)-D.cursor).toNat+pg D+(if(0:Int)=0 then 0 else _)+1≤_
    rw[if_pos rfl]
    simp only[jm]
    omega
end
def ak:Nat→Wd→Wd
 |0,D=>D
 |n+1,D=>(ak n D).tally
def aL:Nat→Wd→Wd
 |0,D=>D
 |n+1,D=>(aL n D).aT
end Go.Proofs.YtjmifnljckmimaaGreat.Pk
