/-
  Texts laid together: LinkPl, LinkPi, RefT, Tally, TallyBeg, TallyNob, TallyCnt, TallyHold, FloodW, FloodHold, TallyOne, FloodRep, FloodDo, FloodPot, FloodRun.
-/
import Derived.Test.YtjmifnljckmimaaGreatRefG7Etc
import Derived.Test.YtjmifnljckmimaaGreatLinkDoEtc
import Derived.Test.YtjmifnljckmimaaGreatGravGrownEtc
import Derived.Test.YtjmifnljckmimaaGreatTintActFEtc
import Derived.Test.YtjmifnljckmimaaGreatRefSeeEtc
import Derived.Test.YtjmifnljckmimaaGreatGravNamEtc
import Derived.Test.YtjmifnljckmimaaGreatTintFn4Etc
import Derived.Test.YtjmifnljckmimaaGreatRefMkEtc
import Derived.Test.YtjmifnljckmimaaGreatWholeRowFEtc
namespace Go.Proofs.YtjmifnljckmimaaGreat.Pk
open Lib (hid)
open Go.RowKit
set_option linter.unusedVariables false
set_option linter.unusedSimpArgs false
set_option maxRecDepth 100000
section
variable {c:Cf} {zs zs':List Int} {D D':Wd} {t u:Th} {r x y:Int} {w wr w':World} {p:Pl} {q lo m k n:Nat}
structure Sit (c:Cf) (D:Wd):Prop where
 san:San D
 nE:∃zs,Wz c zs∧aG c zs D
theorem ic.sit(h:ic w p c D wr)(S:San D):Sit c D:=by
 obtain⟨zs,m,hG,hR,_⟩:=h
 exact⟨S,zs,hG.wz,hR⟩
theorem Sit.wb(h:Sit c D)(hN:c.N≤1000):WB D:=by
 obtain⟨zs,hz,R⟩:=h.nE
 have hp:=h.san.Jh R hz.may
 have h1:=di R.ring.nd R.ring.lt
 have h2:(D.grave.map (· -1)).length≤c.N:=di R.grave.nd R.grave.lt
 have h3:=di R.heap.pl.ch.nd R.heap.pl.ch.lt
 rw[List.length_map] at h2
 refine⟨by omega,by omega,by omega,hp.1,by omega,fun r t hf=> ?_,fun r t hf=> ?_,fun r t hf=> ?_⟩
 ·have:=(R.sizes hz (ax hf).1).2;omega
 ·exact R.SS hz (ax hf).1
 ·have e:=(R.own t (ax hf).1).w4
  have:=hz.wf (ai c t.h 4)
  rw[←e]
  exact this
theorem Sit.lens(h:Sit c D):D.ring.length≤c.N∧D.grave.length≤c.N∧D.clean.length≤c.N:=by
 obtain⟨zs,hz,R⟩:=h.nE
 have h1:=di R.ring.nd R.ring.lt
 have h2:(D.grave.map (· -1)).length≤c.N:=di R.grave.nd R.grave.lt
 have h3:=di R.heap.pl.ch.nd R.heap.pl.ch.lt
 rw[List.length_map] at h2
 exact⟨h1,h2,h3⟩
theorem Sit.Nc(h:Sit c D)(ht:t∈D.live):Hm D.w t:=by
 obtain⟨zs,hz,R⟩:=h.nE
 exact R.Nc hz.may h.san ht
theorem Sit.wd(h:Sit c D):D.w=c.W∧c.May:=by
 obtain⟨zs,hz,R⟩:=h.nE
 exact⟨R.w,hz.may⟩
theorem Sit.step(h:Sit c D):Sit c D.step:=by
 obtain⟨zs,hz,R⟩:=h.nE
 obtain⟨zs1,_,R1,hz1⟩:=(BQ (c:=c) h.san).at hz R
 exact⟨h.san.step,zs1,hz1,R1⟩
theorem Sit.WV(hN:c.N≤1000):Stp (Sit c) where
 wb:=fun D h=>h.wb hN
 san:=fun D h=>h.san
 w1:=fun D h=>by have:=h.wd;have:=this.2.w;omega
 pt:=fun D h t ht=>by have:=(h.Nc ht).small;omega
 step:=fun D h=>h.step
theorem Sit.Ru(h:Sit c D)(hf:D.find r=some t)(hd:t.mr.dead=false){k:Nat}(hk:k<t.pt.length+t.dt.length):fK D.w t k=false:=by
 obtain⟨htl,_⟩:=ax hf
 have z:=h.Nc htl
 unfold fK
 by_cases hb:t.pt.length+t.dt.length≤D.w-8
 ·simp[hb]
 ·have hj:=z.leaf hb hk
  obtain⟨b,hbb⟩:=(h.san.ok t htl).alive hd _ hj
  have:nth t.lv (k/(D.w-1))=(b:Int):=by unfold nth;rw[List.getD_eq_getElem?_getD,hbb];rfl
  rw[this]
  simp
theorem Ej(r:Int)(i:Nat)(x:Int):∃l,(D.drain r i x).grave=D.grave++l:=by
 have key:∀D2:Wd,D2.grave=D.grave→∃l,(if(D2.down x).cnt x=0 then(D2.down x).bU x else D2.down x).grave=D.grave++l:=fun D2 h2=>by
  split
  ·obtain⟨l,hl⟩:=Ib (D:=D2.down x) x
   exact⟨l,by rw[hl];show D2.grave++l=_;rw[h2]⟩
  ·exact⟨[],by rw[List.append_nil];exact h2⟩
 unfold Wd.drain
 by_cases hc:(D.ay r i 0).cnt x=0
 ·rw[if_pos hc];exact⟨[],by rw[List.append_nil];rfl⟩
 ·rw[if_neg hc]
  refine key _ ?_
  split
  ·exact(iH (D:=D.ay r i 0) x).2.1
  ·rfl
theorem Kk:∀(k:Nat) {D:Wd} {g:Nat} {rest:List Nat} {t:Th},San D→D.grave=g::rest→D.find (g:Int)=some t→t.mr.left-D.ahead t.mr.leaves≤(k:Int)→Ends (k+1) D
 |0,D,g,rest,t,S,hg,hf,hk=>by
  right;left
  unfold Wd.gives
  rw[hg]
  simp only
  rw[hf]
  simp
  omega
 |k+1,D,g,rest,t,S,hg,hf,hk=>by
  right
  by_cases ha:D.ahead t.mr.leaves<t.mr.left
  ·right
   obtain⟨t',_,_,hf',hd,d,es⟩:=S.head hg
   rw[hf] at hf'
   cases hf'
   have hst:D.step=(D.drain (g:Int) (t.mr.left-1).toNat (nth t.pt (t.mr.left-1).toNat)).mark (g:Int) (fun m=>{m with left:=t.mr.left-1}):=by
    rw[es]
    unfold Wd.work
    rw[if_pos ha]
   obtain⟨l,hl⟩:=Ej (D:=D) (g:Int) (t.mr.left-1).toNat (nth t.pt (t.mr.left-1).toNat)
   obtain⟨f,h1,h2,h3,h4⟩:=rV hf hd (t.mr.left-1).toNat (nth t.pt (t.mr.left-1).toNat)
   have hg2:D.step.grave=g::(rest++l):=by rw[hst];show(D.drain _ _ _).grave=_;rw[hl,hg];rfl
   have hf2:D.step.find (g:Int)=some {t with pt:=t.pt.set (t.mr.left-1).toNat 0,mr:={f t.mr with left:=t.mr.left-1}}:=by
    rw[hst,bG,h1]
    have:=eQ h1
    simp only[Option.map_some,this,if_true]
   have hw:D.step.w=D.w:=by rw[hst];exact(Kj (D:=D) (r:=(g:Int)) _ _).1
   refine Kk k S.step hg2 hf2 ?_
   show t.mr.left-1-D.step.ahead (f t.mr).leaves≤(k:Int)
   have:D.step.ahead (f t.mr).leaves=D.ahead t.mr.leaves:=by unfold Wd.ahead;rw[h4,hw]
   rw[this]
   omega
  ·left
   unfold Wd.gives
   rw[hg]
   simp only
   rw[hf]
   simp
   omega
theorem San.ends(S:San D){n:Nat}(hn:D.w≤n):Ends n D:=by
 have hw:=S.w
 cases hg:D.grave with
 |nil=>
  cases n with
  |zero=>exact hg
  |succ n=>exact .inl hg
 |cons g rest=>
  obtain⟨t,htl,_,hf,hd,d,_⟩:=S.head hg
  obtain⟨n',rfl⟩:∃n',n=n'+1:=⟨n-1,by omega⟩
  refine Kk n' S hg hf ?_
  have uz:=(S.ok t htl).uz
  have l0:=d.l0
  have f1:=d.f1
  by_cases hl:0<t.mr.leaves
  ·have hne:t.lv≠[]:=fun e=>by have:=d.l1;rw[e] at this;simp at this;omega
   have h1:=d.fl hne
   rw[zZ S hl]
   have h2:(t.mr.leaves-1)*((D.w:Int)-1)=t.mr.leaves*((D.w:Int)-1)-((D.w:Int)-1):=by rw[Int.sub_mul,Int.one_mul]
   rw[h2]
   omega
  ·have h0:t.mr.leaves=0:=by omega
   rw[h0,ahead_zero]
   by_cases hb:t.pt.length+t.dt.length≤D.w-8
   ·omega
   ·have h1:=d.fl (uz.big hb).1
    rw[h0,Int.zero_mul] at h1
    omega
set_option maxHeartbeats 1000000 in
theorem IL(h:ic w p c D wr)(S:San D):
  Calls Tryz.prog 45 #[.pointer (some ⟨p.a,0,none⟩)] wr fun e w'=>e=.returned (.bool (D.ji (c.W*c.W)))∧(ic w p c (D.iC (c.W*c.W)) w'∧San (D.iC (c.W*c.W)))∧Touch (ah p) wr w':=by
 have hw:=(h.sit S).wd.2.w
 have HC:=hid h.Vh
 have H0:=hid h
 have HS:=hid S
 have hmm:(c.W:Int)*(c.W:Int)=((c.W*c.W:Nat):Int):=(Int.natCast_mul _ _).symm
 have hml:c.W*c.W≤256*256:=Nat.mul_le_mul (by omega) (by omega)
 have hwr:IntKind.i64.wrap ((c.W:Int)*(c.W:Int))=((c.W*c.W:Nat):Int):=by rw[hmm];exact IntWalk.i64_in _ (by omega)
 have hfc:=mD (c.N:Int) (c.W:Int) (c.R:Int) (c.K:Int)
 generalize hMd:c.W*c.W=M at*
 clear h S hw hmm hMd
 go_enter Tryz.func45,Tryz.ntmps45
 go_wp2_with fail
 refine HC.out.mono ?_
 rintro e w1 ⟨rfl,hb⟩
 have H1:=hid (H0.out.later hb)
 have T1:=hid (Touch.of_below (X:=ah p) hb)
 clear hb
 go_wp2_with fail
 go_loopw [12] (fun s wx=>∃i:Nat,i≤M∧s=.int .i64 (i:Int)∧∃D',ic w p c D' wx∧San D'∧D'.iC (M-i)=D.iC M∧D'.ji (M-i)=D.ji M∧Touch (ah p) wr wx) (fun s _=>M-(intOf s).toNat)
 case atStart=>exact⟨0,Nat.zero_le _,rfl,D,H1.out,HS.out,rfl,rfl,T1.out⟩
 case round=>
  obtain⟨i,hi,rfl,D',hR,hS,e1,e2,hT⟩:=hrel
  have HR:=hid hR
  have HT:=hid hT
  have HSn:=hid hS
  by_cases hlt:i<M
  ·have rU:=hid (BQ (c:=c) hS)
   have hmi:M-i=(M-(i+1))+1:=by omega
   rw[hmi] at e1 e2
   cases hg:D'.grave.isEmpty with
   |true=>
    have E:Hid (D'.step=D.iC M∧false=D.ji M∧D'.step=D'):=hid (by
     have hs:D'.step=D':=by
      unfold Wd.step
      have:=List.isEmpty_iff.1 hg
      rw[this]
     rw[hs,←e1,←e2]
     unfold Wd.iC Wd.ji
     rw[hg]
     exact⟨rfl,rfl,rfl⟩)
    have hgv:D'.gives=false:=by
     unfold Wd.gives
     rw[List.isEmpty_iff.1 hg]
    rw[hg,hgv] at rU
    clear hR hS e1 e2 hT hg hgv
    go_wp2_with fail
    refine(HR.out.does rU.out).mono ?_
    rintro e w2 ⟨rfl,h2,k2⟩
    have H2:=hid h2
    have T2:=hid (HT.out.trans k2)
    clear h2 k2
    go_wp2_with fail
    go_ret
    exact⟨by rw[←E.out.2.1];rfl,⟨by rw[←E.out.1];exact H2.out,by rw[←E.out.1];exact HSn.out.step⟩,T2.out⟩
   |false=>
    cases hgv:D'.gives with
    |true=>
     have E:Hid (D'.step=D.iC M∧true=D.ji M):=hid (by
      rw[←e1,←e2]
      unfold Wd.iC Wd.ji
      rw[hg,hgv]
      exact⟨rfl,rfl⟩)
     rw[hg,hgv] at rU
     clear hR hS e1 e2 hT hg hgv
     go_wp2_with fail
     refine(HR.out.does rU.out).mono ?_
     rintro e w2 ⟨rfl,h2,k2⟩
     have H2:=hid h2
     have T2:=hid (HT.out.trans k2)
     clear h2 k2
     go_wp2_with fail
     go_ret
     exact⟨by rw[←E.out.2];rfl,⟨by rw[←E.out.1];exact H2.out,by rw[←E.out.1];exact HSn.out.step⟩,T2.out⟩
    |false=>
     have E:Hid (D'.step.iC (M-(i+1))=D.iC M∧D'.step.ji (M-(i+1))=D.ji M):=hid (by
      rw[←e1,←e2]
      constructor
      ·conv=>rhs;unfold Wd.iC
       rw[hg,hgv]
       rfl
      ·conv=>rhs;unfold Wd.ji
       rw[hg,hgv]
       rfl)
     rw[hg,hgv] at rU
     clear hR hS e1 e2 hT hg hgv
     go_wp2_with fail
     refine(HR.out.does rU.out).mono ?_
     rintro e w2 ⟨rfl,h2,k2⟩
     have H2:=hid h2
     have T2:=hid (HT.out.trans k2)
     clear h2 k2
     go_wp2_with fail
     go_roundw
     case rel=>exact⟨i+1,by omega,by go_num,_,H2.out,HSn.out.step,E.out.1,E.out.2,T2.out⟩
     case measure=>simp[intOf];omega
  ·have E:Hid (D'=D.iC M∧false=D.ji M):=hid (by
    rw[←e1,←e2,show M-i=0 by omega]
    exact⟨rfl,rfl⟩)
   clear hR hS e1 e2 hT
   go_wp2_with fail
   go_ret
   exact⟨by rw[←E.out.2];rfl,⟨by rw[←E.out.1];exact HR.out,by rw[←E.out.1];exact HSn.out⟩,HT.out⟩
theorem Bc(l pool:List Nat):∀k,jY c l pool k≤k*(c.W+7)
 |0=>by simp[jY]
 |k+1=>by
  have:=Bc l pool k
  have ht:takeD (l.drop (k+1)++pool)≤7:=by unfold takeD;split<;>omega
  show jY c l pool k+(takeD (l.drop (k+1)++pool)+c.W)≤_
  rw[Nat.add_mul]
  omega
theorem LU(D:Wd)(x y:Int)(h:Qw w p c D m wr):
  Calls Tryz.prog 68 #[.pointer (some ⟨p.a,0,none⟩),.int .i64 x,.int .i64 y] wr fun e w'=>e=.returned (.tuple #[.int .i64 (D.jO x y),.int .i64 (D.kQ x y)])∧(∃d,d≤8+2*c.W*(if D.kQ x y=0 then 1+D.wP x y else 0)∧Qw w p c (D.kG x y) (m+d) w')∧Touch (ah p) wr w':=by
 obtain⟨zs,hG,hR,hp,hB⟩:=h
 have hW:(D.w:Int)=(c.W:Int):=by rw[hR.w]
 by_cases h0:D.kQ x y=0
 ·obtain⟨hs,ex,ey,_,_,hcl,hk⟩:=IZ h0
  have hH:=hR.heap
  rw[hcl] at hH
  rw[hW] at hs hk
  have H:=vQ (s:=⟨zs,m⟩) (w:=wr) D.wD x.toNat y.toNat (D.clean.tail.take (D.wP x y)) (D.clean.tail.drop (D.wP x y)) D.bZ hG hH (by rw[ex,ey];exact hs) (by rw[ex,ey];exact hk)
  have hM:=KD (h:=D.wD) (ls:=D.clean.tail.take (D.wP x y)) (pool:=D.clean.tail.drop (D.wP x y)) (os:=D.bZ) (p:=x.toNat) (d:=y.toNat) hG.wz.may hG.wz.len hH (by rw[ex,ey];exact hs) (by rw[ex,ey];exact hk)
  rw[ex,ey] at H hM
  refine H.mono ?_
  rintro e w' ⟨rfl,hG',hT⟩
  refine⟨by unfold Wd.jO;rw[h0];rfl,⟨_,?_,_,hG',?_,hp,hB.trans (hT.below hp hB.size)⟩,hT⟩
  ·rw[if_pos h0]
   have hlen:(D.clean.tail.take (D.wP x y)).length≤D.wP x y:=by rw[List.length_take];omega
   have h1:=Bc (c:=c) (D.wD::D.clean.tail.take (D.wP x y)) (D.clean.tail.drop (D.wP x y)) (D.wD::D.clean.tail.take (D.wP x y)).length
   have hw:=hG.wz.may.w
   unfold Aw
   generalize D.clean.tail.take (D.wP x y)=L at*
   rw[List.length_cons] at h1 ⊢
   generalize D.wP x y=K at*
   have h2:(L.length+1)*(c.W+7)≤(K+1)*(c.W+7):=Nat.mul_le_mul_right _ (by omega)
   have h3:(K+1)*(c.W+7)+(K+1)*9≤(K+1)*(2*c.W):=by rw[←Nat.mul_add];exact Nat.mul_le_mul_left _ (by omega)
   have h4:2*c.W*(1+K)=(K+1)*(2*c.W):=by rw[Nat.mul_comm,Nat.add_comm]
   rw[h4]
   omega
  ·unfold Wd.kG
   rw[if_pos h0]
   exact hM.nE hR hG.may hcl
 ·have hD:D.kG x y=D:=by unfold Wd.kG;rw[if_neg h0]
  have hRv:D.jO x y=0:=by unfold Wd.jO;rw[if_neg h0]
  rw[hD,hRv]
  by_cases hs:bF (D.w:Int) x y=0
  ·have hl:(D.clean.length:Int)<aZ (D.w:Int) x y:=by
    by_cases hl:(D.clean.length:Int)<aZ (D.w:Int) x y
    ·exact hl
    ·exact absurd (by unfold Wd.kQ;rw[if_pos hs,if_neg hl]) h0
   have hE:D.kQ x y=4:=by unfold Wd.kQ;rw[if_pos hs,if_pos hl]
   rw[hE]
   rw[hW] at hs hl
   refine(tJ (s:=⟨zs,m⟩) (w:=wr) x y D.clean hG hR.heap.pl.ch hs hl).mono ?_
   rintro e w' ⟨rfl,hG',hT⟩
   exact⟨rfl,⟨1,by omega,zs,hG',hR,hp,hB.trans (hT.below hp hB.size)⟩,hT⟩
  ·have hE:D.kQ x y=bF (c.W:Int) x y:=by unfold Wd.kQ;rw[if_neg hs,hW]
   rw[hE]
   rw[hW] at hs
   refine(tK (s:=⟨zs,m⟩) (w:=wr) x y hG hs).mono ?_
   rintro e w' ⟨rfl,hG',hT⟩
   exact⟨rfl,⟨0,by omega,zs,hG',hR,hp,hB.trans (hT.below hp hB.size)⟩,hT⟩
end
section
variable {c:Cf} {D D':Wd} {t u:Th} {r x y:Int} {k K N n:Nat}
def gZ(k:Nat)(D:Wd):Prop:=∀q t,D.find q=some t→t.mr.refs≤(k:Int)∧t.mr.shadow≤(k:Int)
theorem gZ.mono(h:gZ k D)(hk:k≤K):gZ K D:=fun q t hf=>by have:=h q t hf;omega
theorem gZ.ts(h:gZ k D)(e:D'.ts=D.ts):gZ k D':=fun q t hf=>h q t (by unfold Wd.find at *;rw[←e];exact hf)
theorem gZ.upd(h:gZ k D)(r:Int)(g:Th→Th)(hk:k≤K)(hg:∀t,(g t).ended=t.ended∧(g t).h=t.h)(h1:∀t,D.find r=some t→(g t).mr.refs≤(K:Int)∧(g t).mr.shadow≤(K:Int)):gZ K (D.upd r g):=fun q s hs=>by
 rw[pR hg] at hs
 cases hq:D.find q with
 |none=>rw[hq] at hs;cases hs
 |some t=>
  rw[hq] at hs
  simp only[Option.map_some,Option.some.injEq] at hs
  by_cases e:t.at r=true
  ·rw[if_pos e] at hs
   have hr:q=r:=by
    have:=(ax hq).2
    unfold Th.at at e
    simp at e
    omega
   subst hs
   exact h1 t (by rw[←hr];exact hq)
  ·rw[if_neg e] at hs
   subst hs
   have:=h q t hq
   omega
theorem gZ.mark(h:gZ k D)(r:Int)(f:cz→cz)(hk:k≤K)(h1:∀t,D.find r=some t→(f t.mr).refs≤(K:Int)∧(f t.mr).shadow≤(K:Int)):gZ K (D.mark r f):=
 h.upd r (fun t=>{t with mr:=f t.mr}) hk (fun _=>⟨rfl,rfl⟩) h1
theorem gZ.keep(h:gZ k D)(r:Int)(f:cz→cz)(h1:∀m,(f m).refs≤m.refs)(h2:∀m,(f m).shadow≤m.shadow):gZ k (D.mark r f):=
 h.mark r f (Nat.le_refl _) (fun t ht=>by have:=h r t ht;have:=h1 t.mr;have:=h2 t.mr;omega)
theorem gZ.ay(h:gZ k D)(r:Int)(i:Nat)(x:Int):gZ k (D.ay r i x):=h.upd r (fun t=>{t with pt:=t.pt.set i x}) (Nat.le_refl _) (fun _=>⟨rfl,rfl⟩) (fun t ht=>h r t ht)
theorem gZ.touch(h:gZ k D)(r:Int):gZ k (D.touch r):=by
 rcases jJ (D:=D) r with e|e
 ·exact h.ts e
 ·exact(h.keep r (fun m=>{m with color:=D.parity}) (fun _=>Int.le_refl _) (fun _=>Int.le_refl _)).ts e
theorem gZ.more(h:gZ k D)(r:Int):gZ (k+1) (D.more r):=
 (h.mark r (fun m=>{m with refs:=m.refs+1}) (Nat.le_succ k) (fun t ht=>by have:=h r t ht;show t.mr.refs+1≤_∧t.mr.shadow≤_;omega)).touch r
theorem gZ.down(h:gZ k D)(r:Int):gZ k (D.down r):=h.keep r (fun m=>{m with refs:=m.refs-1}) (fun m=>by show m.refs-1≤m.refs;omega) (fun _=>Int.le_refl _)
theorem gZ.aI(h:gZ k D)(r:Int):gZ k (D.aI r):=by
 unfold Wd.aI
 split
 ·exact h.keep r (fun m=>{m with shadow:=m.shadow-1}) (fun _=>Int.le_refl _) (fun m=>by show m.shadow-1≤m.shadow;omega)
 ·exact h
theorem gZ.bU(h:gZ k D)(x:Int):gZ k (D.bU x):=by
 unfold Wd.bU
 cases hf:D.find x with
 |none=>exact h
 |some t=>
  simp only
  split
  ·exact h
  ·have:gZ k (D.upd x (fun s=>{s with mr:={s.mr with dead:=true,left:=(t.pt.length:Int),leaves:=(t.lv.length:Int)}})):=h.upd x _ (Nat.le_refl _) (fun _=>⟨rfl,rfl⟩) (fun u hu=>h x u hu)
   exact this.ts (uM x t)
theorem gZ.inter(h:gZ k D)(x:Int):gZ k (D.inter x):=by
 unfold Wd.inter
 split
 ·exact h.bU x
 ·exact h
theorem gZ.less(h:gZ k D)(r:Int):gZ k (D.less r):=((h.down r).ts (D':=(D.down r).rR) rfl).inter r
theorem gZ.drain(h:gZ k D)(r:Int)(i:Nat)(x:Int):gZ k (D.drain r i x):=by
 have key:∀D2:Wd,gZ k D2→gZ k (if(D2.down x).cnt x=0 then(D2.down x).bU x else D2.down x):=fun D2 h2=>by
  split
  ·exact(h2.down x).bU x
  ·exact h2.down x
 unfold Wd.drain
 by_cases hc:(D.ay r i 0).cnt x=0
 ·rw[if_pos hc];exact h.ay r i 0
 ·rw[if_neg hc]
  refine key _ ?_
  split
  ·exact(h.ay r i 0).aI x
  ·exact h.ay r i 0
theorem gZ.step(h:gZ k D)(S:San D):gZ k D.step:=by
 cases hg:D.grave with
 |nil=>rw[show D.step=D by unfold Wd.step;rw[hg]];exact h
 |cons g rest=>
  obtain⟨t,htl,_,hf,hd,d,es⟩:=S.head hg
  rw[es]
  unfold Wd.work
  split
  ·exact(h.drain _ _ _).keep _ _ (fun _=>Int.le_refl _) (fun _=>Int.le_refl _)
  ·split
   ·have h1:gZ k (D.upd (g:Int) (fun s=>{s with lv:=s.lv.set (t.mr.leaves-1).toNat (-1),mr:={s.mr with leaves:=t.mr.leaves-1}})):=h.upd _ _ (Nat.le_refl _) (fun _=>⟨rfl,rfl⟩) (fun u hu=>h _ u hu)
    exact h1.ts (Ef _ _ _ _)
   ·intro q s hs
    have hlive:({({D with grave:=rest}:Wd).ky (g:Int) t.h with pending:=D.pending-1}:Wd).live=D.live.filter (fun s=>s.h !=t.h):=jD (g:=fun s=>{s with ended:=true}) (fun _=>rfl) S.nd hf
    obtain⟨hl,e⟩:=ax hs
    rw[hlive] at hl
    have hl2:=(List.mem_filter.1 hl).1
    have:=S.ja hl2
    rw[e] at this
    exact h q s this
theorem gZ.put(h:gZ k D)(r:Int)(i:Nat)(x y:Int):gZ (k+1) (D.put r i x y):=by
 have h1:gZ (k+1) (D.bW r i x):=by
  unfold Wd.bW
  split
  ·exact(h.ay r i x).mono (Nat.le_succ k)
  ·exact(h.more x).ay r i x
 unfold Wd.put Wd.wE
 split
 ·exact(h1.touch y).less y
 ·exact h1
def UY(N k:Nat)(l:List Nat):Prop:=l.length≤k∧∀h,h∈l→h<N
theorem Gt(x:Int):(D.touch x).ts.map Th.h=D.ts.map Th.h:=by
 rcases jJ (D:=D) x with h|h
 ·rw[h]
 ·rw[h];exact gI x _
theorem Cv(x:Int):(D.more x).ts.map Th.h=D.ts.map Th.h:=(Gt x).trans (gI x _)
theorem Cs(x:Int):(D.less x).ts.map Th.h=D.ts.map Th.h:=(Oq (D:=(D.down x).rR) x).trans (show(D.down x).rR.ts.map Th.h=D.ts.map Th.h from gI (D:=D) x (fun m=>{m with refs:=m.refs-1}))
theorem Ud(r:Int)(i:Nat)(x y:Int):(D.put r i x y).ts.map Th.h=D.ts.map Th.h:=by
 have h1:(D.bW r i x).ts.map Th.h=D.ts.map Th.h:=by
  unfold Wd.bW
  split
  ·exact uh r i x
  ·exact(uh (D:=D.more x) r i x).trans (Cv x)
 unfold Wd.put Wd.wE
 split
 ·exact(Cs y).trans ((Gt y).trans h1)
 ·exact h1
structure bz (c:Cf) (k:Nat) (D:Wd):Prop where
 san:San D
 bd:gZ k D
 hd:UY c.N k (D.ts.map Th.h)
theorem bz.new(c:Cf){v:Nat}(hv:16≤v):bz c 0 (Wd.new c.N v):=⟨San.new c.N hv,fun q t hf=>by simp[Wd.find,Wd.new,bE] at hf,by simp[Wd.new,UY]⟩
theorem UY.mono{l:List Nat}(h:UY N k l)(hk:k≤K):UY N K l:=⟨Nat.le_trans h.1 hk,h.2⟩
theorem bz.mono(I:bz c k D)(hk:k≤K):bz c K D:=⟨I.san,I.bd.mono hk,I.hd.mono hk⟩
theorem bz.up(I:bz c k D):bz c (k+1) D:=I.mono (Nat.le_succ k)
theorem bz.to(I:bz c k D)(S:San D')(B:gZ (k+1) D')(e:D'.ts.map Th.h=D.ts.map Th.h):bz c (k+1) D':=⟨S,B,by rw[e];exact I.hd.mono (Nat.le_succ k)⟩
theorem bz.step(I:bz c k D):bz c k D.step:=⟨I.san.step,I.bd.step I.san,by rw[Sa];exact I.hd⟩
theorem bz.iC(I:bz c k D):∀n,bz c k (D.iC n):=fun n=>by
 induction n generalizing D with
 |zero=>exact I
 |succ n ih=>
  unfold Wd.iC
  split
  ·exact I
  ·split
   ·exact I.step
   ·exact ih I.step
theorem bz.ny(I:bz c k D)(r:Int):bz c (k+1) (D.ny r):=by
 unfold Wd.ny
 split
 ·exact I.to (I.san.less r) ((I.bd.less r).mono (Nat.le_succ k)) (Cs r)
 ·exact I.up
def Wd.oU(D:Wd)(r:Int):Wd:=if D.dz r then D.more r else D
theorem bz.oU(I:bz c k D)(r:Int):bz c (k+1) (D.oU r):=by
 unfold Wd.oU
 split
 ·exact I.to (I.san.more r) (I.bd.more r) (Cv r)
 ·exact I.up
theorem bz.put(I:bz c k D)(hf:D.find r=some t)(hd:t.mr.dead=false)(i:Nat)(x y:Int):bz c (k+1) (D.put r i x y):=
 I.to (I.san.WJ hf hd) (I.bd.put r i x y) (Ud r i x y)
theorem bz.turn(I:bz c k D):bz c (k+1) D.turn:=I.to (I.san.same_but rfl rfl rfl rfl (fun b hb=>.inl hb)) ((I.bd.mono (Nat.le_succ k)).ts rfl) rfl
theorem bz.pM(I:bz c k D)(i:Int):bz c (k+1) (D.pM i):=by
 unfold Wd.pM
 split
 ·exact I.to (I.san.same_but rfl rfl rfl rfl (fun b hb=>.inl hb)) ((I.bd.mono (Nat.le_succ k)).ts rfl) rfl
 ·exact I.up
theorem bz.fG(I:bz c k D)(r:Int):bz c (k+1) (D.fG r):=by
 refine I.to (I.san.mark r (fun _=>rfl) (fun _=>rfl) (fun _=>rfl)) (I.bd.mark r _ (Nat.le_succ k) (fun t ht=> ?_)) (gI r _)
 have h1:=I.bd r t ht
 refine⟨by show t.mr.refs≤_;omega,?_⟩
 show D.fE r+1≤_
 unfold Wd.fE
 rw[ht]
 show(if t.mr.shade=D.parity then t.mr.shadow else 0)+1≤_
 split<;>omega
theorem bz.done(I:bz c k D)(r:Int):bz c (k+1) (D.done r):=
 I.to (I.san.mark r (fun _=>rfl) (fun _=>rfl) (fun _=>rfl)) ((I.bd.keep r (fun m=>{m with count:=D.parity}) (fun _=>Int.le_refl _) (fun _=>Int.le_refl _)).mono (Nat.le_succ k)) (gI r _)
theorem Aj:∀{l1 l2:List Th} {q:Int} {s:Th},bE q (l1++l2)=some s→bE q l1=some s∨bE q l2=some s
 |[],l2,q,s,h=>.inr h
 |u::l,l2,q,s,h=>by
  have e0:bE q ((u::l)++l2)=if u.at q then some u else bE q (l++l2):=rfl
  have e1:bE q (u::l)=if u.at q then some u else bE q l:=rfl
  rw[e0] at h
  rw[e1]
  by_cases e:u.at q=true
  ·rw[if_pos e] at h ⊢;exact .inl h
  ·rw[if_neg e] at h ⊢;exact Aj h
theorem bz.born(I:bz c k D)(B:rT D x y c.N):bz c (k+1) (D.born x y):=by
 refine⟨B.WN I.san,?_,?_⟩
 ·unfold Wd.born
  split
  ·rename_i hE
   have h1:gZ k (D.kG x y):=by
    unfold Wd.kG
    rw[if_pos hE]
    intro q s hs
    have hs:bE q (D.ts++[_])=some s:=hs
    rcases Aj hs with h|h
    ·exact I.bd q s h
    ·have:s=⟨D.wD,ints (D.clean.tail.take (D.wP x y)),kH x.toNat,kH y.toNat,false,cz.new⟩:=by
      unfold bE at h
      split at h
      ·exact(Option.some.inj h).symm
      ·simp[bE] at h
     subst this
     show(0:Int)≤_∧(0:Int)≤_
     omega
   exact(h1.mark _ _ (Nat.le_refl _) (fun t ht=>⟨(h1 _ t ht).1,by show(0:Int)≤_;omega⟩)).more _
  ·exact I.bd.mono (Nat.le_succ k)
 ·unfold Wd.born
  split
  ·rename_i hE
   have e1:(((D.kG x y).nQ (D.jO x y)).more (D.jO x y)).ts.map Th.h=(D.kG x y).ts.map Th.h:=(Cv _).trans (gI _ _)
   have e2:(D.kG x y).ts.map Th.h=D.ts.map Th.h++[D.wD]:=by unfold Wd.kG;rw[if_pos hE];show(D.ts++[_]).map Th.h=_;rw[List.map_append];rfl
   rw[e1,e2]
   refine⟨by rw[List.length_append];have:=I.hd.1;simp at *;omega,fun h hh=> ?_⟩
   rcases List.mem_append.1 hh with hh|hh
   ·exact I.hd.2 h hh
   ·rw[List.mem_singleton.1 hh];exact B.lt hE
  ·exact I.hd.mono (Nat.le_succ k)
end
def Wd.fJ(D:Wd):Bool:=decide (D.phase=1)&&decide (D.cursor<(D.n:Int))
def Wd.qU(D:Wd):Option Th→Wd
 |none=>D.move (D.cursor+1) 0
 |some t=>if t.mr.count=D.parity then D.move (D.cursor+1) 0
  else if D.field<(t.pt.length:Int) then(D.fG (nth t.pt D.field.toNat)).move D.cursor (D.field+1)
  else(D.done (D.cursor+1)).move (D.cursor+1) 0
def Wd.tally(D:Wd):Wd:=if D.fJ then D.qU (D.find (D.cursor+1)) else D
section
variable {w w':World} {lo:Nat} {lab:Nat→Nat} {a:WA} {D D':Wd} {i:Nat} {t t' u:Th} {x:TA}
theorem az.move(h:az w lo lab a D)(c f:Int):az ((w.setCell ⟨a.q,4,none⟩ (.int .i64 c)).setCell ⟨a.q,5,none⟩ (.int .i64 f)) lo lab a (D.move c f):=by
 have k2:=h.fI (D':={D with cursor:=c}) (k:=4) (u:=.int .i64 c) rfl rfl rfl rfl rfl rfl rfl
 exact k2.fI (D':=D.move c f) (k:=5) (u:=.int .i64 f) rfl rfl rfl rfl rfl rfl rfl
theorem Touch.move{q:Nat}(h:Touch (fun b=>lo≤b) w w')(hq:lo≤q)(c f:Int):Touch (fun b=>lo≤b) w ((w'.setCell ⟨q,4,none⟩ (.int .i64 c)).setCell ⟨q,5,none⟩ (.int .i64 f)):=
 (h.setCell (p:=⟨q,4,none⟩) (fun _=>hq) _).setCell (p:=⟨q,5,none⟩) (fun _=>hq) _
end
section
variable {c:Cf} {zs:List Int} {D:Wd} {t:Th} {r:Int} {k:Nat}
theorem Kq(S:San D)(hz:Wz c zs)(R:aG c zs D)(hf:D.find r=some t){i:Nat}(hi:i<t.pt.length):
  In64 (nth t.pt i)∧∃e:Int,jk c 70 [.int .i64 r,.int .i64 (i:Int)] zs 12 zs (.tuple #[.int .i64 (nth t.pt i),.int .i64 e]):=by
 have hr:=jq hz.may R hf
 obtain⟨htl,_⟩:=ax hf
 have hk:=S.ok t htl
 cases ha:bg c t.ob i with
 |some a=>
  obtain⟨h1,b0,b1⟩:=tV hz R hr hf hi ha
  exact⟨by constructor<;>omega,0,h1⟩
 |none=>
  have h0:nth t.pt i=0:=by
   cases hd:t.mr.dead with
   |true=>
    have d:=hk.dead hd
    by_cases hl:(i:Int)<t.mr.left
    ·obtain⟨_,a,h⟩:=d.field hz.may R.w.symm hk.uz hl
     rw[ha] at h
     cases h
    ·exact d.zero i (by omega)
   |false=>
    obtain⟨a,h⟩:=(hk.alive hd).field hz.may R.w.symm hk.uz hi
    rw[ha] at h
    cases h
  have hob:=fw R r
  rw[hf] at hob
  have e1:ry c zs D.bZ r (i:Int)=nth t.pt i:=by
   unfold ry
   rw[hob]
   show(if kR (i:Int) t.ob.np then iw c zs t.ob (i:Int).toNat else 0)=_
   rw[if_pos (jP (show i<t.ob.np from hi)),Int.toNat_natCast]
   unfold iw
   rw[ha,h0]
  have h:=kL.ptr c zs D.clean D.bZ r (i:Int) hz R.heap hr
  rw[e1] at h
  exact⟨by rw[h0];constructor<;>omega,_,h⟩
theorem Ck(S:San D)(hf:D.find r=some t){f:Int}(hn:¬f<(t.pt.length:Int)):Does c D 136 [.int .i64 r,.int .i64 f] 12 D (.bool false):=fun zs hz R=>by
 have hob:=fw R r
 rw[hf] at hob
 obtain⟨d1,hd1,C1⟩:=kL.jC c zs D.clean D.bZ r t.ob hz R.heap hob
 exact⟨zs,⟨d1,hd1,Dt (n:=(t.ob.np:Int)) hn C1⟩,R⟩
theorem LF(S:San D)(hf:D.find r=some t){j:Nat}(hj:j<t.pt.length)(hb:D.fE (nth t.pt j)<4294967295):Does c D 136 [.int .i64 r,.int .i64 (j:Int)] 33 (D.fG (nth t.pt j)) (.bool true):=fun zs hz R=>by
 have hob:=fw R r
 rw[hf] at hob
 obtain⟨d1,hd1,C1⟩:=kL.jC c zs D.clean D.bZ r t.ob hz R.heap hob
 obtain⟨h64,e,d2,hd2,C2⟩:=Kq S hz R hf hj
 obtain⟨zs3,⟨d3,hd3,C3⟩,R3,hz3⟩:=(tintFns.fG c D (nth t.pt j) h64 hb).at hz R
 have hn:(j:Int)<(t.ob.np:Int):=by show(j:Int)<(t.pt.length:Int);omega
 exact⟨zs3,⟨d1+d2+d3,by omega,MN hn C1 C2 C3⟩,R3⟩
theorem LZ{x y:Int}(h0:0≤x)(h1:x≤4294967295)(h2:0≤y)(h3:y≤4294967295):D.Az x y=D.move x y:=by
 unfold Wd.Az OM
 rw[if_pos (by simp[h0,h1,h2,h3])]
theorem Rp{x y:Int}(h0:0≤x)(h1:x≤4294967295)(h2:0≤y)(h3:y≤4294967295):OM x y=true:=by
 unfold OM
 simp[h0,h1,h2,h3]
theorem ko{x y:Int}(h0:0≤x)(h1:x≤4294967295)(h2:0≤y)(h3:y≤4294967295):Does c D 53 [.int .i64 x,.int .i64 y] 2 (D.move x y) (.bool true):=by
 have h:=tintFns.move c D x y
 rw[LZ h0 h1 h2 h3,Rp h0 h1 h2 h3] at h
 exact h
theorem aG.Lj(R:aG c zs D)(hz:Wz c zs):(0≤D.cursor∧D.cursor≤4294967295)∧0≤D.field∧D.field≤4294967295:=by
 have h1:=R.reg 12 (by omega) (by omega)
 have h2:=R.reg 13 (by omega) (by omega)
 have e1:D.reg 12=D.cursor:=rfl
 have e2:D.reg 13=D.field:=rfl
 rw[e1] at h1
 rw[e2] at h2
 have b1:=hz.wf 12
 have b2:=hz.wf 13
 rw[←h1,←h2]
 exact⟨b1,b2⟩
theorem Ov(S:San D)(hb:∀q,D.fE q<4294967295):Does c D 76 [] 96 D.tally (.bool D.fJ):=fun zs hz R=>by
 have hm:=hz.may
 have hmn:=hm.n
 have hN:=R.n
 obtain⟨⟨k0,k1⟩,f0,f1⟩:=R.Lj hz
 obtain⟨zs1,⟨d1,hd1,C1⟩,R1,hz1⟩:=(tintFns.at_ c D).at hz R
 obtain⟨zs2,⟨d2,hd2,C2⟩,R2,hz2⟩:=(tintFns.phase c D).at hz1 R1
 by_cases hp:D.phase=1
 ·rw[hp] at C2
  by_cases hk:D.cursor<(D.n:Int)
  ·have e:D.fJ=true:=by unfold Wd.fJ;simp[hp,hk]
   have hk':D.cursor<(c.N:Int):=by rw[←hN];exact hk
   have hr:In64 (D.cursor+1):=by constructor<;>omega
   unfold Wd.tally
   rw[e,if_pos rfl]
   obtain⟨zs3,⟨d3,hd3,C3⟩,R3,hz3⟩:=(NZ (c:=c) (D:=D) hr).at hz2 R2
   cases hf:D.find (D.cursor+1) with
   |none=>
    rw[hf] at C3
    obtain⟨zs4,⟨d4,hd4,C4⟩,R4,hz4⟩:=(ko (c:=c) (D:=D) (x:=D.cursor+1) (y:=0) (by omega) (by omega) (by omega) (by omega)).at hz3 R3
    exact⟨zs4,⟨d1+d2+d3+d4,by omega,Dr k0 hk' hm C1 C2 C3 C4⟩,R4⟩
   |some t=>
    rw[hf] at C3
    obtain⟨zs4,⟨d4,hd4,C4⟩,R4,hz4⟩:=(tintFns.counted c D (D.cursor+1) D.field hr).at hz3 R3
    have hc:D.counted (D.cursor+1) D.field=decide (t.mr.count=D.parity):=by
     unfold Wd.counted
     rw[hf]
     simp[f0]
    rw[hc] at C4
    unfold Wd.qU
    by_cases hct:t.mr.count=D.parity
    ·rw[show decide (t.mr.count=D.parity)=true from decide_eq_true hct] at C4
     obtain⟨zs5,⟨d5,hd5,C5⟩,R5,hz5⟩:=(ko (c:=c) (D:=D) (x:=D.cursor+1) (y:=0) (by omega) (by omega) (by omega) (by omega)).at hz4 R4
     simp only[hct,if_true]
     exact⟨zs5,⟨d1+d2+d3+d4+d5,by omega,wI k0 hk' hm C1 C2 C3 C4 C5⟩,R5⟩
    ·rw[show decide (t.mr.count=D.parity)=false from decide_eq_false hct] at C4
     simp only[hct,if_false]
     by_cases hff:D.field<(t.pt.length:Int)
     ·obtain⟨j,hj⟩:=Int.eq_ofNat_of_zero_le f0
      have hjl:j<t.pt.length:=by omega
      have hsz:=(R4.Nc hm S (ax hf).1).small
      obtain⟨zs5,⟨d5,hd5,C5⟩,R5,hz5⟩:=(LF (c:=c) S hf hjl (hb _)).at hz4 R4
      obtain⟨zs6,⟨d6,hd6,C6⟩,R6,hz6⟩:=(ko (c:=c) (D:=D.fG (nth t.pt j)) (x:=D.cursor) (y:=(j:Int)+1) (by omega) (by omega) (by omega) (by omega)).at hz5 R5
      simp only[hff,if_true]
      rw[hj] at C1 C4 ⊢
      rw[Int.toNat_natCast]
      exact⟨zs6,⟨d1+d2+d3+d4+d5+d6,by omega,Dp (f:=(j:Int)) (by omega) (by omega) k0 hk' hm C1 C2 C3 C4 C5 C6⟩,R6⟩
     ·obtain⟨zs5,⟨d5,hd5,C5⟩,R5,hz5⟩:=(Ck (c:=c) S hf hff).at hz4 R4
      obtain⟨zs6,⟨d6,hd6,C6⟩,R6,hz6⟩:=(tintFns.done c D (D.cursor+1) hr).at hz5 R5
      obtain⟨zs7,⟨d7,hd7,C7⟩,R7,hz7⟩:=(ko (c:=c) (D:=D.done (D.cursor+1)) (x:=D.cursor+1) (y:=0) (by omega) (by omega) (by omega) (by omega)).at hz6 R6
      simp only[hff,if_false]
      exact⟨zs7,⟨d1+d2+d3+d4+d5+d6+d7,by omega,Dq k0 hk' hm C1 C2 C3 C4 C5 C6 C7⟩,R7⟩
  ·have e:D.fJ=false:=by unfold Wd.fJ;simp[hk]
   unfold Wd.tally
   rw[e,if_neg (by decide)]
   exact⟨zs2,⟨d1+d2,by omega,GL (by rw[←hN];omega) C1 C2⟩,R2⟩
 ·have e:D.fJ=false:=by unfold Wd.fJ;simp[hp]
  unfold Wd.tally
  rw[e,if_neg (by decide)]
  exact⟨zs2,⟨d1+d2,by omega,zW hp C1 C2⟩,R2⟩
theorem San.move(S:San D)(x y:Int):San (D.move x y):=S.same_but rfl rfl rfl rfl (fun b hb=>.inl hb)
theorem San.fG(S:San D)(x:Int):San (D.fG x):=S.mark x (fun _=>rfl) (fun _=>rfl) (fun _=>rfl)
theorem San.done(S:San D)(x:Int):San (D.done x):=S.mark x (fun _=>rfl) (fun _=>rfl) (fun _=>rfl)
theorem San.tally(S:San D):San D.tally:=by
 unfold Wd.tally
 split
 ·unfold Wd.qU
  split
  ·exact S.move _ _
  ·split
   ·exact S.move _ _
   ·split
    ·exact(S.fG _).move _ _
    ·exact(S.done _).move _ _
 ·exact S
theorem gZ.fE(h:gZ k D)(q:Int):D.fE q≤(k:Int):=by
 unfold Wd.fE
 split
 ·omega
 ·rename_i t hf
  have:=h q t hf
  split<;>omega
theorem gZ.fG(h:gZ k D)(x:Int):gZ (k+1) (D.fG x):=by
 have hs:=h.fE x
 exact h.mark x _ (Nat.le_succ k) (fun t ht=>by have:=h x t ht;show t.mr.refs≤_∧D.fE x+1≤_;omega)
theorem gZ.done(h:gZ k D)(x:Int):gZ k (D.done x):=h.keep x _ (fun _=>Int.le_refl _) (fun _=>Int.le_refl _)
theorem gZ.move(h:gZ k D)(x y:Int):gZ k (D.move x y):=h.ts rfl
theorem gZ.tally(h:gZ k D):gZ (k+1) D.tally:=by
 have h':=h.mono (Nat.le_succ k)
 unfold Wd.tally
 split
 ·unfold Wd.qU
  split
  ·exact h'.move _ _
  ·split
   ·exact h'.move _ _
   ·split
    ·exact(h.fG _).move _ _
    ·exact(h'.done _).move _ _
 ·exact h'
theorem PT:D.tally.ts.map Th.h=D.ts.map Th.h:=by
 unfold Wd.tally
 split
 ·unfold Wd.qU
  split
  ·rfl
  ·split
   ·rfl
   ·split
    ·show(D.fG _).ts.map Th.h=_
     unfold Wd.fG
     exact gI _ _
    ·show(D.done _).ts.map Th.h=_
     unfold Wd.done
     exact gI _ _
 ·rfl
theorem bz.tally(I:bz c k D):bz c (k+1) D.tally:=I.to I.san.tally I.bd.tally PT
end
section
variable {w wr w':World} {p:Pl} {q lo m k n:Nat} {c:Cf} {D D2 D':Wd} {t u:Th} {r i x y sp sd:Int}
theorem ld_begin(ph:Int)(h0:0≤ph)(h3:ph≤3):Does c D 21 [.int .i64 ph] 5 (D.begin ph) (.bool true):=by
 have h:=tintFns.begin_ c D ph
 have e:phB ph=true:=decide_eq_true ⟨h0,h3⟩
 unfold Wd.pM at h
 rw[e,if_pos rfl] at h
 exact h
theorem bz.begin_(I:bz c k D)(ph:Int):bz c (k+1) (D.begin ph):=I.to (I.san.same_but rfl rfl rfl rfl (fun b hb=>.inl hb)) ((I.bd.mono (Nat.le_succ k)).ts rfl) rfl
theorem JA(h:D.fJ=false):D.tally=D:=by unfold Wd.tally;rw[h];rfl
end
section
variable {D:Wd} {x:Int}
end
theorem Du{P:Th→Prop}{g:Th→Th}(hg:∀t,P t→P (g t))(r:Int):∀{l:List Th},(∀t,t∈l→P t)→∀t,t∈bJ r g l→P t
 |[],_,t,ht=>by simp[bJ] at ht
 |u::l,h,t,ht=>by
  unfold bJ at ht
  split at ht
  ·rcases List.mem_cons.1 ht with rfl|ht
   ·exact hg u (h u (by simp))
   ·exact h t (List.mem_cons_of_mem _ ht)
  ·rcases List.mem_cons.1 ht with rfl|ht
   ·exact h _ (List.mem_cons_self ..)
   ·exact Du hg r (fun t ht=>h t (List.mem_cons_of_mem _ ht)) t ht
def pG(D:Wd):Prop:=D.parity=0∧∀t,t∈D.ts→t.mr.count=0∧t.mr.shade=0
section
variable {D D':Wd} {x y r:Int}
theorem pG.mark(h:pG D)(r:Int){f:cz→cz}(hf:∀m,m.count=0∧m.shade=0→(f m).count=0∧(f m).shade=0):pG (D.mark r f):=
 ⟨h.1,Du (P:=fun t=>t.mr.count=0∧t.mr.shade=0) (fun t ht=>hf t.mr ht) r h.2⟩
theorem pG.nQ(h:pG D)(r:Int):pG (D.nQ r):=h.mark r (fun m _=>⟨h.1,h.1⟩)
theorem vJ{q:Int}{t:Th}:∀{l:List Th},bE q l=some t→t∈l
 |u::l,h=>by
  unfold bE at h
  split at h
  ·cases h
   simp
  ·exact List.mem_cons_of_mem _ (vJ h)
theorem pG.fE(h:pG D)(hp:D'.parity=1)(ht:D'.ts=D.ts)(q:Int):D'.fE q=0:=by
 unfold Wd.fE
 cases hf:D'.find q with
 |none=>rfl
 |some t=>
  have hm:t∈D.ts:=by rw[←ht];exact vJ hf
  simp only
  rw[if_neg (by rw[(h.2 t hm).2,hp];decide)]
end
def UM(h f:Nat)(u:Th):Nat:=if u.h<h then u.pt.length else if u.h=h then f else 0
def VP(q:Int)(h f:Nat)(u:Th):Nat:=QL q (u.pt.take (UM h f u))
section
variable {D D':Wd} {t u:Th} {N s h f:Nat} {q x r:Int}
theorem Eh(S:San D)(hs:u∈(D.done x).live):∃v,v∈D.live∧u.h=v.h∧((v.h:Int)+1=x∧u.mr.count=D.parity∨(v.h:Int)+1≠x∧u.mr.count=v.mr.count):=by
 unfold Wd.done at hs
 obtain⟨v,hv,e1,_,h2⟩:=Fb S hs
 exact⟨v,hv,e1,by
  rcases h2 with⟨h,h2⟩|⟨h,h2⟩
  ·exact .inl ⟨h,by rw[h2]⟩
  ·exact .inr ⟨h,by rw[h2]⟩⟩
structure CI (N s h f:Nat) (D:Wd):Prop where
 san:San D
 cu:D.cursor=(h:Int)
 fi:D.field=(f:Int)
 ph:D.phase=1
 n:D.n=N
 hN:h≤N
 ct:∀t,t∈D.live→(t.mr.count=D.parity↔t.h<h)
 fz:f=0∨∃t,t∈D.live∧t.h=h∧f≤t.pt.length
 sh:∀q t,D.find q=some t→D.fE q=((bS (VP q h f) D.ts:Nat):Int)
 st:s=h+bS (UM h f) D.ts
 hlt:∀t,t∈D.live→t.h<N
 bd:N+bS (fun t=>t.pt.length) D.ts≤16*N
theorem San.PW(S:San D)(ht:t∈D.live)(hu:u∈D.live)(e:u.h=t.h):u=t:=by
 have h1:=S.ja ht
 have h2:=S.ja hu
 rw[e,h1] at h2
 exact(Option.some.inj h2).symm
theorem CI.done(I:CI N s h f D)(hk:h<N)(hf:D.find ((h:Int)+1)=some t)(hff:¬f<t.pt.length):CI N (s+1) (h+1) 0 ((D.done ((h:Int)+1)).move ((h:Int)+1) 0):=by
 obtain⟨htl,e⟩:=ax hf
 have e:t.h=h:=by omega
 have ef:f=t.pt.length:=by
  rcases I.fz with h0|⟨u,hu,e2,h2⟩
  ·omega
  ·rw[I.san.PW htl hu (by omega)] at h2
   omega
 have hch:∀u,u∈bP D.ts→UM (h+1) 0 u=UM h f u:=fun u hu=>by
  unfold UM
  by_cases h1:u.h<h
  ·rw[if_pos h1,if_pos (by omega)]
  ·rw[if_neg h1]
   by_cases h2:u.h=h
   ·rw[if_pos h2,if_pos (by omega),I.san.PW htl hu (by omega),ef]
   ·rw[if_neg h2,if_neg (by omega)]
    split<;>rfl
 have hm:∀φ:Th→Nat,(∀(t:Th) (m:cz),φ {t with mr:=m}=φ t)→bS φ (D.done ((h:Int)+1)).ts=bS φ D.ts:=fun φ hφ=>qQ _ (fun t=>hφ t _)
 refine⟨(I.san.done _).move _ _,by show(h:Int)+1=_;omega,rfl,I.ph,I.n,hk,fun s hs=> ?_,.inl rfl,fun q v hq=> ?_,?_,fun s hs=> ?_,?_⟩
 ·obtain⟨v,hv,e1,h2⟩:=Eh I.san (show s∈(D.done ((h:Int)+1)).live from hs)
  have h3:=I.ct v hv
  show s.mr.count=D.parity↔_
  rcases h2 with⟨k,h2⟩|⟨k,h2⟩
  ·rw[h2]
   exact⟨fun _=>by omega,fun _=>rfl⟩
  ·rw[h2,h3]
   omega
 ·show(D.done ((h:Int)+1)).fE q=((bS (VP q (h+1) 0) (D.done ((h:Int)+1)).ts:Nat):Int)
  have hq:(D.done ((h:Int)+1)).find q=some v:=hq
  rw[hm _ (fun _ _=>rfl),su (φ:=VP q (h+1) 0) (ψ:=VP q h f) (fun u hu=>by unfold VP;rw[hch u hu])]
  have hq2:(D.done ((h:Int)+1)).find q=(D.find q).map (fun u=>if u.at ((h:Int)+1) then {u with mr:={u.mr with count:=D.parity}} else u):=bG (D:=D) (r:=(h:Int)+1) (fun m=>{m with count:=D.parity}) q
  cases hv:D.find q with
  |none=>
   rw[hv] at hq2
   rw[hq2] at hq
   cases hq
  |some u=>
   rw[hv] at hq2
   simp only[Option.map_some] at hq2
   have:(D.done ((h:Int)+1)).fE q=D.fE q:=by
    show(match(D.done ((h:Int)+1)).find q with|none=>0|some t=>if t.mr.shade=D.parity then t.mr.shadow else 0)=(match D.find q with|none=>0|some t=>if t.mr.shade=D.parity then t.mr.shadow else 0)
    rw[hq2,hv]
    cases u.at ((h:Int)+1)<;>rfl
   rw[this]
   exact I.sh q u hv
 ·show s+1=h+1+bS (UM (h+1) 0) (D.done ((h:Int)+1)).ts
  rw[hm _ (fun _ _=>rfl),su hch]
  have:=I.st
  omega
 ·obtain⟨v,hv,e1,_⟩:=Eh I.san (show s∈(D.done ((h:Int)+1)).live from hs)
  rw[e1]
  exact I.hlt v hv
 ·show N+bS _ (D.done ((h:Int)+1)).ts≤_
  rw[hm _ (fun _ _=>rfl)]
  exact I.bd
end
def Wn(P C F:Int)(u:Th):Nat:=if u.mr.count=P then u.pt.length else if(u.h:Int)=C then F.toNat else 0
def Rz(P C F q:Int)(u:Th):Nat:=QL q (u.pt.take (Wn P C F u))
def Wd.ph(D:Wd)(q:Int):Th→Nat:=Rz D.parity D.cursor D.field q
def sv(P:Int)(m:cz):Int:=if m.shade=P then m.shadow else 0
structure yT (E:Int→Prop) (D:Wd):Prop where
 sh:∀s,s∈D.live→¬E ((s.h:Int)+1)→s.mr.dead=false→s.mr.color≠D.parity→sv D.parity s.mr=((bS (D.ph ((s.h:Int)+1)) D.ts:Nat):Int)
 ct:∀s,s∈D.live→(s.h:Int)<D.cursor→s.mr.count=D.parity
def Wl(D D':Wd):Prop:=D'.parity=D.parity∧D'.cursor=D.cursor∧D'.field=D.field∧D'.phase=D.phase
section
variable {D D':Wd} {E E':Int→Prop} {t s u:Th} {r x y q:Int} {g:Th→Th} {P C F:Int}
theorem TU{m:cz}(h:m.count=t.mr.count):Rz P C F q {t with mr:=m}=Rz P C F q t:=by
 unfold Rz Wn
 rw[show({t with mr:=m}:Th).mr.count=t.mr.count from h]
theorem OY(h:Wl D D'):D'.ph q=D.ph q:=by unfold Wd.ph;rw[h.1,h.2.1,h.2.2.1]
theorem yT.same(H:yT E D)(h:D'.ts=D.ts)(k:Wl D D'):yT E D':=by
 have hl:D'.live=D.live:=by unfold Wd.live;rw[h]
 refine⟨fun s hs he hd hc=> ?_,fun s hs hc=> ?_⟩
 ·rw[hl] at hs
  rw[k.1] at hc ⊢
  rw[OY k,h]
  exact H.sh s hs he hd hc
 ·rw[hl] at hs
  rw[k.2.1] at hc
  rw[k.1]
  exact H.ct s hs hc
theorem yT.upd(H:yT E D)(S:San D)(hf:D.find r=some t)(hts:D'.ts=bJ r g D.ts)(k:Wl D D')(he:(g t).ended=false)(hh:(g t).h=t.h)
  (hp:∀q,q≠0→¬E' q→D.ph q (g t)=D.ph q t) (hc:t.mr.count=D.parity→(g t).mr.count=D.parity)
  (hs:¬E' ((t.h:Int)+1)→(g t).mr.dead=false→(g t).mr.color≠D.parity→¬E ((t.h:Int)+1)∧t.mr.dead=false∧t.mr.color≠D.parity∧sv D.parity (g t).mr=sv D.parity t.mr)
  (hE:∀q,E q→E' q):yT E' D':=by
 have htl:=(ax hf).1
 have hm:∀s,s∈D'.live→s=g t∨(s∈D.live∧s.h≠t.h):=fun s h=>by
  unfold Wd.live at h
  rw[hts] at h
  exact gP S.nd hf h
 have hsum:∀q,q≠0→¬E' q→bS (D'.ph q) D'.ts=bS (D.ph q) D.ts:=fun q h0 h1=>by
  rw[OY k,hts]
  have h2:=nH (φ:=D.ph q) hf he
  rw[hp q h0 h1] at h2
  omega
 refine⟨fun s h h1 h2 h3=> ?_,fun s h h1=> ?_⟩
 ·rw[hsum _ (by omega) h1]
  rw[k.1] at h3 ⊢
  rcases hm s h with rfl|⟨h4,_⟩
  ·rw[hh] at h1 ⊢
   obtain⟨k1,k2,k3,k4⟩:=hs h1 h2 h3
   rw[k4]
   exact H.sh t htl k1 k2 k3
  ·exact H.sh s h4 (fun e=>h1 (hE _ e)) h2 h3
 ·rw[k.2.1] at h1
  rw[k.1]
  rcases hm s h with rfl|⟨h4,_⟩
  ·rw[hh] at h1
   exact hc (H.ct t htl h1)
  ·exact H.ct s h4 h1
theorem yT.mark(H:yT E D)(S:San D)(r:Int){f:cz→cz}(hc:∀m,(f m).count=m.count)(hs:∀m,(f m).dead=false→(f m).color≠D.parity→m.dead=false∧m.color≠D.parity∧sv D.parity (f m)=sv D.parity m):yT E (D.mark r f):=by
 cases hf:D.find r with
 |none=>rw[dJ f hf];exact H
 |some t=>
  refine H.upd (E':=E) (g:=fun t=>{t with mr:=f t.mr}) S hf rfl ⟨rfl,rfl,rfl,rfl⟩ (df hf).2.1 rfl (fun q _ _=>TU (hc _)) (fun h=>(hc _).trans h) (fun h1 h2 h3=> ?_) (fun _ h=>h)
  obtain⟨k1,k2,k3⟩:=hs t.mr h2 h3
  exact⟨h1,k1,k2,k3⟩
theorem vC(r:Int):Wl D (D.touch r):=by
 unfold Wd.touch
 split<;>exact⟨rfl,rfl,rfl,rfl⟩
theorem yT.cO(H:yT E D)(S:San D)(r:Int):yT E (D.cO r):=H.mark S r (f:=fun m=>{m with color:=D.parity}) (fun _=>rfl) (fun m _ h=>absurd rfl h)
theorem yT.touch(H:yT E D)(S:San D)(r:Int):yT E (D.touch r):=by
 unfold Wd.touch
 split
 ·exact(H.cO S r).same rfl ⟨rfl,rfl,rfl,rfl⟩
 ·exact H
variable {hold:Nat→Nat}
theorem pG.same(h:pG D)(k:D'.ts=D.ts)(hp:D'.parity=D.parity):pG D':=⟨hp.trans h.1,by rw[k];exact h.2⟩
theorem pG.touch(h:pG D)(r:Int):pG (D.touch r):=by
 rcases jJ (D:=D) r with k|k
 ·exact h.same k (vC r).1
 ·exact(h.mark r (f:=fun m=>{m with color:=D.parity}) (fun m hm=>hm)).same k (vC r).1
def TM(D:Wd):Prop:=(D.phase=0∧pG D)∨(D.phase=1∧yT (fun _=>False) D)
theorem TM.begin_(T:TM D)(h0:D.phase=0):TM (D.turn.begin 1):=by
 rcases T with⟨h,k⟩|⟨h,k⟩
 ·refine .inr ⟨rfl,?_,?_⟩
  ·intro s hs _ _ _
   have hp:(D.turn.begin 1).parity=1:=by
    show 1-D.parity=1
    rw[k.1]
    rfl
   have hm:=k.2 s (gM.1 (show s∈bP D.ts from hs)).1
   rw[hp]
   unfold sv
   rw[if_neg (by rw[hm.2];decide),Ba (fun u hu=> ?_)]
   ·rfl
   ·have hu2:=k.2 u (gM.1 (show u∈bP D.ts from hu)).1
    show Rz (D.turn.begin 1).parity 0 0 _ u=0
    rw[hp]
    unfold Rz Wn
    rw[if_neg (by rw[hu2.1];decide)]
    split<;>rfl
  ·intro s hs h1
   have h1:(s.h:Int)<0:=h1
   omega
 ·omega
end
section
variable (D:Wd)
def Wd.uZ:Option Th→Wd
 |none=>{D with scan:=0}
 |some t=>if D.scanF<(t.pt.length:Int) then {D.touch (nth t.pt D.scanF.toNat) with scanF:=D.scanF+1} else {D with scan:=0}
def Wd.settle(r:Int):Wd:=D.mark r (fun m=>{m with shade:=D.parity,shadow:=D.fE r})
def Wd.mG(r:Int):Option Th→Wd
 |none=>D
 |some t=>if t.mr.dead then D else if D.fE r<t.mr.refs then(D.settle r).touch r else D.settle r
def Wd.IJ:Wd:={D.mG (D.cursor+1) (D.find (D.cursor+1)) with cursor:=D.cursor+1}
def Wd.dX:Bool:=decide (D.phase=2)&&(!decide (D.scan=0)|| !D.ring.isEmpty||decide (D.cursor<(D.n:Int)))
def Wd.ni:Wd:=
 if D.dX then
  if D.scan=0 then
   match D.ring with
   |b::rest=>{D with ring:=rest,scan:=(b:Int)+1,scanF:=0}
   |[]=>D.IJ
  else D.uZ (D.find D.scan)
 else D
end
def WX(D:Wd)(x:Int):Prop:=∀v,v∈D.live→(v.h:Int)+1=x→v.mr.dead=true∨v.mr.color=D.parity
def Tg(D:Wd):Prop:=∀u,u∈D.live→u.mr.dead=false→u.mr.color=D.parity→∀i,i<u.pt.length→u.h∈D.ring∨((u.h:Int)+1=D.scan∧D.scanF≤(i:Int))∨WX D (nth u.pt i)
section
variable {D D':Wd} {t u v:Th} {r x y:Int} {g:Th→Th}
theorem Fe{x:Int}:∀{l:List Nat},hasB (ints l) x=true→x.toNat∈l
 |[],h=>by simp[ints,hasB] at h
 |a::l,h=>by
  by_cases e:(a:Int)=x
  ·have:x.toNat=a:=by omega
   rw[this]
   exact List.mem_cons_self ..
  ·refine List.mem_cons_of_mem _ (Fe ?_)
   unfold hasB ints at h ⊢
   simp at h ⊢
   rcases h with h|h
   ·exact absurd h e
   ·exact h
theorem Tg.touch(H:Tg D)(S:San D)(r:Int):Tg (D.touch r):=by
 cases ht:D.aU r with
 |false=>
  have e:D.touch r=D:=by unfold Wd.touch;rw[ht];rfl
  rw[e]
  exact H
 |true=>
  cases hf:D.find r with
  |none=>unfold Wd.aU at ht;rw[hf] at ht;cases ht
  |some t=>
   obtain⟨htl,er⟩:=ax hf
   have e:D.touch r={D.cO r with ring:=if hasB (ints D.ring) (r-1) then D.ring else D.ring++[(r-1).toNat]}:=by unfold Wd.touch;rw[ht];rfl
   have hth:t.h=(r-1).toNat:=by omega
   have hin:t.h∈(D.touch r).ring:=by
    rw[e]
    show t.h∈(if hasB (ints D.ring) (r-1) then D.ring else D.ring++[(r-1).toNat])
    split
    ·rename_i hb
     rw[hth]
     exact Fe hb
    ·rw[hth]
     simp
   have hri:∀b,b∈D.ring→b∈(D.touch r).ring:=fun b hb=>by
    rw[e]
    show b∈(if hasB (ints D.ring) (r-1) then D.ring else D.ring++[(r-1).toNat])
    split
    ·exact hb
    ·exact List.mem_append_left _ hb
   have hsc:(D.touch r).scan=D.scan∧(D.touch r).scanF=D.scanF∧(D.touch r).parity=D.parity:=by rw[e];exact⟨rfl,rfl,rfl⟩
   have hm:∀s,s∈(D.touch r).live→s={t with mr:={t.mr with color:=D.parity}}∨(s∈D.live∧s.h≠t.h):=fun s h=>by
    rw[e] at h
    exact gP (g:=fun t=>{t with mr:={t.mr with color:=D.parity}}) S.nd hf h
   intro u hu h1 h2 i hi
   rcases hm u hu with rfl|⟨k,_⟩
   ·exact .inl hin
   ·rw[hsc.2.2] at h2
    rcases H u k h1 h2 i hi with h|h|h
    ·exact .inl (hri _ h)
    ·exact .inr (.inl (by rw[hsc.1,hsc.2.1];exact h))
    ·refine .inr (.inr (fun v hv e2=> ?_))
     rw[hsc.2.2]
     rcases hm v hv with rfl|⟨k2,_⟩
     ·exact .inr rfl
     ·exact h v k2 e2
theorem San.kE(S:San D)(o:Option Th):San (D.uZ o):=by
 unfold Wd.uZ
 split
 ·exact S.same_but rfl rfl rfl rfl (fun b hb=>.inl hb)
 ·split
  ·exact(S.touch _).same_but rfl rfl rfl rfl (fun b hb=>.inl hb)
  ·exact S.same_but rfl rfl rfl rfl (fun b hb=>.inl hb)
theorem San.settle(S:San D)(r:Int):San (D.settle r):=S.mark r (fun _=>rfl) (fun _=>rfl) (fun _=>rfl)
theorem San.mG(S:San D)(r:Int)(o:Option Th):San (D.mG r o):=by
 unfold Wd.mG
 split
 ·exact S
 ·split
  ·exact S
  ·split
   ·exact(S.settle r).touch r
   ·exact S.settle r
theorem San.ni(S:San D):San D.ni:=by
 unfold Wd.ni
 split
 ·split
  ·split
   ·rename_i b rest hr
    exact S.same_but rfl rfl rfl rfl (fun c hc=>.inl (by rw[hr];exact List.mem_cons_of_mem _ hc))
   ·exact(S.mG _ _).same_but rfl rfl rfl rfl (fun b hb=>.inl hb)
  ·exact S.kE _
 ·exact S
theorem Tg.turn(h:∀t,t∈D.live→t.mr.color=0)(hp:D.parity=0):Tg (D.turn.begin 1):=fun u hu h1 h2 i hi=>by
 have h3:=h u hu
 have h4:(D.turn.begin 1).parity=1:=by
  show 1-D.parity=1
  rw[hp]
  rfl
 rw[h3,h4] at h2
 cases h2
end
structure Bp (D D':Wd):Prop where
 par:D'.parity=D.parity
 sc:D.scan=0→D'.scan=0
 sf:0≤D.scanF→0≤D'.scanF
 mem:∀s,s∈D'.live→(s.mr.color=D.parity∧s.mr.count=D.parity)∨∃v,v∈D.live∧s.h=v.h∧(s.mr.dead=false→v.mr.dead=false)∧(v.mr.color=D.parity→s.mr.color=D.parity)∧(v.mr.count=D.parity→s.mr.count=D.parity)
def UV(D:Wd):Prop:=∀u,u∈D.live→u.mr.count=D.parity
def VH(hold:Nat→Nat)(D:Wd):Prop:=∀u,u∈D.live→u.mr.dead=false→0<hold u.h→(u.h:Int)<D.cursor→u.mr.color=D.parity
section
variable {D D' D2:Wd} {t u v s:Th} {r x y:Int} {g:Th→Th} {E:Int→Prop} {hold hold':Nat→Nat}
theorem Bp.refl(D:Wd):Bp D D:=⟨rfl,fun h=>h,fun h=>h,fun s hs=>.inr ⟨s,hs,rfl,fun h=>h,fun h=>h,fun h=>h⟩⟩
theorem Bp.trans(h:Bp D D')(k:Bp D' D2):Bp D D2:=⟨k.par.trans h.par,fun e=>k.sc (h.sc e),fun e=>k.sf (h.sf e),fun s hs=>by
 rcases k.mem s hs with⟨a,b⟩|⟨v,hv,e1,e2,e3,e4⟩
 ·exact .inl ⟨a.trans h.par,b.trans h.par⟩
 ·rw[h.par] at e3 e4
  rcases h.mem v hv with⟨a,b⟩|⟨u,hu,f1,f2,f3,f4⟩
  ·exact .inl ⟨e3 a,e4 b⟩
  ·exact .inr ⟨u,hu,e1.trans f1,fun z=>f2 (e2 z),fun z=>e3 (f3 z),fun z=>e4 (f4 z)⟩⟩
theorem Bp.same(h:D'.ts=D.ts)(hp:D'.parity=D.parity)(hs:D'.scan=D.scan)(hf:D'.scanF=D.scanF):Bp D D':=by
 have hl:D'.live=D.live:=by unfold Wd.live;rw[h]
 refine⟨hp,fun e=>hs.trans e,fun e=>by rw[hf];exact e,fun s hs=> ?_⟩
 rw[hl] at hs
 exact .inr ⟨s,hs,rfl,fun h=>h,fun h=>h,fun h=>h⟩
theorem Bp.upd(S:San D)(hf:D.find r=some t)(hts:D'.ts=bJ r g D.ts)(hp:D'.parity=D.parity)(hs:D.scan=0→D'.scan=0)(hsf:D'.scanF=D.scanF)(hh:(g t).h=t.h)(h1:(g t).mr.dead=false→t.mr.dead=false)(h2:t.mr.color=D.parity→(g t).mr.color=D.parity)(h3:t.mr.count=D.parity→(g t).mr.count=D.parity):Bp D D':=
 ⟨hp,hs,fun e=>by rw[hsf];exact e,fun s k=>by
  unfold Wd.live at k
  rw[hts] at k
  rcases gP S.nd hf k with rfl|⟨k,_⟩
  ·exact .inr ⟨t,(ax hf).1,hh,h1,h2,h3⟩
  ·exact .inr ⟨s,k,rfl,fun h=>h,fun h=>h,fun h=>h⟩⟩
theorem Bp.mark(S:San D)(r:Int){f:cz→cz}(h1:∀m,(f m).dead=false→m.dead=false)(h2:∀m,m.color=D.parity→(f m).color=D.parity)(h3:∀m,m.count=D.parity→(f m).count=D.parity):Bp D (D.mark r f):=by
 cases hf:D.find r with
 |none=>rw[dJ f hf];exact Bp.refl D
 |some t=>exact Bp.upd (g:=fun t=>{t with mr:=f t.mr}) S hf rfl rfl (fun h=>h) rfl rfl (h1 _) (h2 _) (h3 _)
theorem Bp.touch(S:San D)(r:Int):Bp D (D.touch r):=by
 unfold Wd.touch
 split
 ·exact(Bp.mark S r (f:=fun m=>{m with color:=D.parity}) (fun _ h=>h) (fun _ _=>rfl) (fun _ h=>h)).trans (Bp.same rfl rfl rfl rfl)
 ·exact Bp.refl D
theorem yT.cursor(H:yT E D)(A:UV D)(k:Int):yT E {D with cursor:=k}:=by
 refine⟨fun s hs h1 h2 h3=> ?_,fun s hs _=>A s hs⟩
 have e:bS (({D with cursor:=k}:Wd).ph ((s.h:Int)+1)) D.ts=bS (D.ph ((s.h:Int)+1)) D.ts:=su (fun u hu=>by
  show Rz D.parity k D.field _ u=Rz D.parity D.cursor D.field _ u
  unfold Rz Wn
  rw[if_pos (A u hu),if_pos (A u hu)])
 show sv D.parity s.mr=((bS (({D with cursor:=k}:Wd).ph ((s.h:Int)+1)) D.ts:Nat):Int)
 rw[e]
 exact H.sh s hs h1 h2 h3
structure FL (hold:Nat→Nat) (D:Wd):Prop where
 ho:yT (fun _=>False) D
 tri:Tg D
 al:UV D
 vh:VH hold D
 sf:0≤D.scanF
def Te(D:Wd):Prop:=pG D∧∀t,t∈D.ts→t.mr.color=0
inductive FM (hold:Nat→Nat) (D:Wd):Prop where
 |idle:D.phase=0→Te D→FM hold D
 |cnt:D.phase=1→yT (fun _=>False) D→Tg D→D.scan=0→FM hold D
 |fl:D.phase=2→FL hold D→FM hold D
theorem Te.touch(h:Te D)(r:Int):Te (D.touch r):=by
 refine⟨h.1.touch r,?_⟩
 rcases jJ (D:=D) r with k|k
 ·rw[k]
  exact h.2
 ·rw[k]
  exact Du (P:=fun t=>t.mr.color=0) (g:=fun t=>{t with mr:={t.mr with color:=D.parity}}) (fun t _=>h.1.1) r h.2
theorem Te.nQ(h:Te D)(r:Int):Te (D.nQ r):=⟨h.1.nQ r,Du (P:=fun t=>t.mr.color=0) (g:=fun t=>{t with mr:={t.mr with color:=D.parity,count:=D.parity,shade:=D.parity,shadow:=0}}) (fun t _=>h.1.1) r h.2⟩
theorem rX(h:D.dX=false):D.ni=D:=by unfold Wd.ni;rw[h];rfl
theorem NU(h:D.phase≠2):D.dX=false:=by unfold Wd.dX;rw[decide_eq_false h];rfl
end
def hN(hold:Nat→Nat)(i:Nat):Nat:=if i=0 then 0 else hold (i-1)
section
variable {w wr w':World} {p:Pl} {c:Cf} {q k:Nat} {D D':Wd} {hold hold':Nat→Nat} {ph:Int} {t u:Th} {r x y i:Int}
end
section
variable {w wr:World} {p:Pl} {c:Cf} {q k:Nat} {D:Wd} {hold:Nat→Nat} {ph:Int}
end
theorem Wi:∀x:Nat,x<128→x ^^^ 16=if x/16%2=0 then x+16 else x-16:=by decide
theorem Sz{x:Int}(hx:ek x)(hk:dh x):bits .xor .u32 x 16=eB x (uC x) (uN x) (1-uS x) (uD x):=by
 obtain⟨hr,h128,h0⟩:=hx
 unfold dI at hr
 unfold dh at hk
 have hlt:x<128:=by
  have h1:uO x=0:=by omega
  unfold uO at h1
  omega
 obtain⟨X,rfl⟩:=Int.eq_ofNat_of_zero_le h0
 rw[u32_xor _ _ (by omega) (by omega) (by omega) (by omega),Int.toNat_natCast,show(16:Int).toNat=16 from rfl,Wi X (by omega)]
 unfold eB dL uK uC uN uS uD uG
 split<;>omega
theorem KT{r:Int}{t:Th}{g:Th→Th}:∀{l:List Th},bE r l=some t→g t=t→bJ r g l=l
 |u::l,h,hg=>by
  unfold bE at h
  unfold bJ
  cases hu:u.at r with
  |true=>
   rw[hu] at h
   simp at h
   subst h
   rw[if_pos rfl,hg]
  |false=>
   rw[hu] at h
   simp at h
   rw[if_neg (by simp),KT h hg]
section
variable {c:Cf} {zs:List Int} {D:Wd} {t:Th} {r:Int}
theorem Mx(hf:D.find r=some t)(h:t.mr.shade=D.parity):D.settle r=D:=by
 have hs:D.fE r=t.mr.shadow:=by unfold Wd.fE;rw[hf];simp only;rw[if_pos h]
 have:bJ r (fun t=>{t with mr:={t.mr with shade:=D.parity,shadow:=D.fE r}}) D.ts=D.ts:=KT (t:=t) hf (by
  show({t with mr:={t.mr with shade:=D.parity,shadow:=D.fE r}}:Th)=t
  rw[hs,←h])
 show({D with ts:=bJ r (fun t=>{t with mr:={t.mr with shade:=D.parity,shadow:=D.fE r}}) D.ts}:Wd)=D
 rw[this]
theorem vW(hf:D.find r=some t):(D.settle r).find r=some {t with mr:={t.mr with shade:=D.parity,shadow:=D.fE r}}:=fu _ hf
theorem Jv(hf:D.find r=some t):(D.settle r).fE r=D.fE r:=by
 show(match(D.settle r).find r with|none=>0|some t=>if t.mr.shade=D.parity then t.mr.shadow else 0)=_
 rw[vW hf]
 simp
theorem Ju(hf:D.find r=some t):(D.settle r).cnt r=t.mr.refs:=by
 unfold Wd.cnt
 rw[vW hf]
theorem MF(R:aG c zs D)(hz:Wz c zs)(hf:D.find r=some t)(hs:t.mr.shade≠D.parity):
  aG c ((zs.set (ai c t.h 0) (eB (nth zs (ai c t.h 0)) (uC (nth zs (ai c t.h 0))) (uN (nth zs (ai c t.h 0))) (1-uS (nth zs (ai c t.h 0))) (uD (nth zs (ai c t.h 0))))).set (ai c t.h 4) 0) (D.settle r):=by
 obtain⟨h1,h2,h3,h4,h5⟩:=R.gN hf
 have hp:=R.par
 have h01:=(bY (nth zs (ai c t.h 0))).2.2.1
 have e1:1-uS (nth zs (ai c t.h 0))=D.parity:=by
  have:=h5.cS
  omega
 have es:D.fE r=0:=by unfold Wd.fE;rw[hf];simp only;rw[if_neg hs]
 rw[e1]
 have R1:=vB R hf hz (bY _).1 (bY _).2.1 R.par (.inl rfl) (fun m=>{m with shade:=D.parity}) (by simp only;rw[h5.cC,h5.cN,h5.Ai])
 have R2:=R1.qp hz.may (by simp;exact hz.len) (fu _ hf) (v:=4) (.inr rfl) (x:=0) (f:=fun m=>{m with shadow:=0}) rfl
 rw[nz] at R2
 unfold Wd.settle
 rw[es]
 exact R2
theorem Gr(R:aG c zs D)(hz:Wz c zs){b:Nat}{rest:List Nat}(hr:D.ring=b::rest):aG c (bC c b zs) {D with ring:=rest}:=by
 obtain⟨u,hu,e⟩:=R.wS hz.may (x:=b) (by rw[hr];exact List.mem_cons_self ..)
 have hf:=R.ja hu
 have h:=yE R hz hf (by rw[hr,e];exact List.mem_cons_self ..)
 have hnd:=R.ring.nd
 rw[hr,List.nodup_cons] at hnd
 have e2:D.aS u.h={D with ring:=rest}:=by
  unfold Wd.aS
  congr 1
  rw[hr,e,List.filter_cons_of_neg (by simp)]
  exact List.filter_eq_self.2 (fun x hx=>by
   have:x≠b:=fun e3=>hnd.1 (by rw[←e3];exact hx)
   simpa using this)
 rw[e2,e] at h
 exact h
theorem aG.CV(R:aG c zs D)(hz:Wz c zs)(x:Int):aG c (zs.set 14 x) {D with scan:=x}:=by
 refine R.kP hz.may hz.len (k:=14) (by omega) (by omega) rfl rfl rfl rfl rfl rfl rfl rfl (fun j h1 h2 h3=> ?_) R.par
 have:j=10∨j=11∨j=12∨j=13∨j=15∨j=16∨j=17∨j=18:=by omega
 rcases this with rfl|rfl|rfl|rfl|rfl|rfl|rfl|rfl<;>rfl
theorem aG.FX(R:aG c zs D)(hz:Wz c zs)(x:Int):aG c (zs.set 15 x) {D with scanF:=x}:=by
 refine R.kP hz.may hz.len (k:=15) (by omega) (by omega) rfl rfl rfl rfl rfl rfl rfl rfl (fun j h1 h2 h3=> ?_) R.par
 have:j=10∨j=11∨j=12∨j=13∨j=14∨j=16∨j=17∨j=18:=by omega
 rcases this with rfl|rfl|rfl|rfl|rfl|rfl|rfl|rfl<;>rfl
theorem aG.scans(R:aG c zs D)(hz:Wz c zs):(0≤D.scan∧D.scan≤4294967295)∧0≤D.scanF∧D.scanF≤4294967295:=by
 have h1:=R.reg 14 (by omega) (by omega)
 have h2:=R.reg 15 (by omega) (by omega)
 have e1:D.reg 14=D.scan:=rfl
 have e2:D.reg 15=D.scanF:=rfl
 rw[e1] at h1
 rw[e2] at h2
 have b1:=hz.wf 14
 have b2:=hz.wf 15
 rw[←h1,←h2]
 exact⟨b1,b2⟩
end
section
variable {c:Cf} {zs:List Int} {D:Wd} {t:Th} {r:Int}
theorem LG(hf:D.find r=some t):Does c D 184 [.int .i64 r] 4 (D.settle r) (.tuple #[]):=fun zs hz R=>by
 obtain⟨h1,h2,h3,h4,h5⟩:=R.gN hf
 obtain⟨htl,er⟩:=ax hf
 have hlt:=R.hlt htl
 have hwf:=hz.wf (ai c t.h 0)
 have C1:Run c 95 [] zs 1 zs (.int .i64 D.parity):=fun p m w hG=>bD hG _ (R.reg 10 (by omega) (by omega))
 subst er
 by_cases hs:t.mr.shade=D.parity
 ·rw[Mx hf hs]
  exact⟨zs,⟨2,by omega,xq hlt hz.may rfl hwf.1 hwf.2 (by rw[h5.cS];exact hs) C1⟩,R⟩
 ·have ok:=ou h1 h2 (bY (nth zs (ai c t.h 0))).1 (bY (nth zs (ai c t.h 0))).2.1 (show 1-uS (nth zs (ai c t.h 0))=0∨1-uS (nth zs (ai c t.h 0))=1 by have:=(bY (nth zs (ai c t.h 0))).2.2.1;omega) (bY (nth zs (ai c t.h 0))).2.2.2
  obtain⟨_,_,_,_,_,_,_,y0,y1⟩:=ok
  exact⟨_,⟨4,by omega,zb hlt hz.may rfl hwf.1 hwf.2 (by rw[h5.cS];exact hs) (Sz h1 h2) y0 y1 C1⟩,MF R hz hf hs⟩
theorem IE(h:D.scan=0):Does c D 138 [] 1 D (.bool false):=fun zs hz R=>
 ⟨zs,⟨1,by omega,Io ((R.reg 14 (by omega) (by omega)).trans h)⟩,R⟩
theorem Rh(S:San D)(h:D.scan≠0):Does c D 138 [] 44 (D.uZ (D.find D.scan)) (.bool true):=fun zs hz R=>by
 have h14:nth zs 14=D.scan:=R.reg 14 (by omega) (by omega)
 have h15:nth zs 15=D.scanF:=R.reg 15 (by omega) (by omega)
 obtain⟨⟨s0,s1⟩,f0,f1⟩:=R.scans hz
 have h64:In64 D.scan:=by constructor<;>omega
 have hob:=fw R D.scan
 cases hf:D.find D.scan with
 |none=>
  rw[hf] at hob
  obtain⟨d1,hd1,C1⟩:=kL.sV c zs D.clean D.bZ D.scan hz R.heap h64 hob
  exact⟨_,⟨1+1+d1+1,by omega,vK h14 h h15 f0 C1⟩,R.CV hz 0⟩
 |some t=>
  rw[hf] at hob
  obtain⟨d1,hd1,C1⟩:=kL.jC c zs D.clean D.bZ D.scan t.ob hz R.heap hob
  unfold Wd.uZ
  simp only
  by_cases hff:D.scanF<(t.pt.length:Int)
  ·rw[if_pos hff]
   obtain⟨j,hj⟩:=Int.eq_ofNat_of_zero_le f0
   have hjl:j<t.pt.length:=by omega
   have hjn:D.scanF.toNat=j:=by omega
   have hsz:=(R.Nc hz.may S (ax hf).1).small
   obtain⟨x64,e,d2,hd2,C2⟩:=Kq S hz R hf hjl
   obtain⟨zs3,⟨d3,hd3,C3⟩,R3,hz3⟩:=(tintFns.touch c D (nth t.pt j) x64).at hz R
   rw[hjn]
   rw[hj] at h15 ⊢
   exact⟨_,⟨1+1+d1+d2+d3+1,by omega,QO h14 h h15 (by omega) (by omega) (show(j:Int)<(t.ob.np:Int) by show(j:Int)<(t.pt.length:Int);omega) C1 C2 C3⟩,R3.FX hz3 _⟩
  ·rw[if_neg hff]
   exact⟨_,⟨1+1+d1+1,by omega,vK h14 h h15 (show(t.ob.np:Int)≤D.scanF by show(t.pt.length:Int)≤D.scanF;omega) C1⟩,R.CV hz 0⟩
theorem Cj(h:D.ring=[]):Does c D 139 [] 26 D (.bool false):=fun zs hz R=>by
 have hr:=R.ring
 rw[h] at hr
 obtain⟨d1,hd1,C1⟩:=CO.take_no c zs hz hr
 exact⟨zs,⟨d1,by omega,BL C1⟩,R⟩
theorem LD{b:Nat}{rest:List Nat}(h:D.ring=b::rest):Does c D 139 [] 26 {D with ring:=rest,scan:=(b:Int)+1,scanF:=0} (.bool true):=fun zs hz R=>by
 have hr:=R.ring
 rw[h] at hr
 have A:=CO.take_yes c zs rest b hz hr
 have hz1:=A.wz hz
 obtain⟨d1,hd1,C1⟩:=A
 have hb:b<c.N:=hr.lt b (List.mem_cons_self ..)
 have hmn:=hz.may.n
 have R1:=Gr R hz h
 have R2:=R1.CV hz1 ((b:Int)+1)
 have R3:=R2.FX (hz1.set 14 (by omega) (by omega)) 0
 exact⟨_,⟨d1+1+1,by omega,Lr (by omega) C1⟩,R3⟩
theorem OI{D':Wd}(h:D'.field=D.field)(k:Int):D'.move k D.field={D' with cursor:=k}:=by
 unfold Wd.move
 rw[←h]
theorem Rf(S:San D)(h:D.cursor<(D.n:Int)):Does c D 140 [] 42 D.IJ (.bool true):=fun zs hz R=>by
 have hm:=hz.may
 have hmn:=hm.n
 have hN:=R.n
 obtain⟨⟨k0,k1⟩,f0,f1⟩:=R.Lj hz
 have hk':D.cursor<(c.N:Int):=by rw[←hN];exact h
 have hr:In64 (D.cursor+1):=by constructor<;>omega
 obtain⟨zs1,⟨d1,hd1,C1⟩,R1,hz1⟩:=(tintFns.at_ c D).at hz R
 obtain⟨zs2,⟨d2,hd2,C2⟩,R2,hz2⟩:=(NZ (c:=c) (D:=D) hr).at hz1 R1
 have hfin:∀D':Wd,D'.field=D.field→Does c D' 53 [.int .i64 (D.cursor+1),.int .i64 D.field] 2 {D' with cursor:=D.cursor+1} (.bool true):=fun D' hD=>by
  have:=ko (c:=c) (D:=D') (x:=D.cursor+1) (y:=D.field) (by omega) (by omega) f0 f1
  rwa[OI hD] at this
 unfold Wd.IJ
 cases hf:D.find (D.cursor+1) with
 |none=>
  rw[hf] at C2
  obtain⟨zs3,⟨d3,hd3,C3⟩,R3,hz3⟩:=(hfin D rfl).at hz2 R2
  exact⟨zs3,⟨d1+d2+d3,by omega,BO k0 hk' hm C1 C2 C3⟩,R3⟩
 |some t=>
  rw[hf] at C2
  obtain⟨zs3,⟨d3,hd3,C3⟩,R3,hz3⟩:=(tintFns.dead c D (D.cursor+1) hr).at hz2 R2
  have hdd:D.dead (D.cursor+1)=t.mr.dead:=by unfold Wd.dead;rw[hf]
  rw[hdd] at C3
  unfold Wd.mG
  simp only
  by_cases hd:t.mr.dead=true
  ·rw[hd] at C3
   rw[if_pos hd]
   obtain⟨zs4,⟨d4,hd4,C4⟩,R4,hz4⟩:=(hfin D rfl).at hz3 R3
   exact⟨zs4,⟨d1+d2+d3+d4,by omega,BN k0 hk' hm C1 C2 C3 C4⟩,R4⟩
  ·have hdf:t.mr.dead=false:=by cases h:t.mr.dead;rfl;exact absurd h hd
   rw[hdf] at C3
   rw[if_neg hd]
   obtain⟨zs4,⟨d4,hd4,C4⟩,R4,hz4⟩:=(LG (c:=c) hf).at hz3 R3
   obtain⟨zs5,⟨d5,hd5,C5⟩,R5,hz5⟩:=(Ip (c:=c) (D:=D.settle (D.cursor+1)) hr).at hz4 R4
   obtain⟨zs6,⟨d6,hd6,C6⟩,R6,hz6⟩:=(tintFns.shadow c (D.settle (D.cursor+1)) (D.cursor+1) hr).at hz5 R5
   rw[Ju hf] at C5
   rw[Jv hf] at C6
   by_cases hlt:D.fE (D.cursor+1)<t.mr.refs
   ·rw[if_pos hlt]
    obtain⟨zs7,⟨d7,hd7,C7⟩,R7,hz7⟩:=(tintFns.touch c (D.settle (D.cursor+1)) (D.cursor+1) hr).at hz6 R6
    obtain⟨zs8,⟨d8,hd8,C8⟩,R8,hz8⟩:=(hfin ((D.settle (D.cursor+1)).touch (D.cursor+1)) (vC (D:=D.settle (D.cursor+1)) _).2.2.1).at hz7 R7
    exact⟨zs8,⟨d1+d2+d3+d4+d5+d6+d7+d8,by omega,Im k0 hk' hm hlt C1 C2 C3 C4 C5 C6 C7 C8⟩,R8⟩
   ·rw[if_neg hlt]
    obtain⟨zs7,⟨d7,hd7,C7⟩,R7,hz7⟩:=(hfin (D.settle (D.cursor+1)) rfl).at hz6 R6
    exact⟨zs7,⟨d1+d2+d3+d4+d5+d6+d7,by omega,Eu k0 hk' hm (by omega) C1 C2 C3 C4 C5 C6 C7⟩,R7⟩
theorem IC(h:¬D.cursor<(D.n:Int)):Does c D 140 [] 42 D (.bool false):=fun zs hz R=>by
 have hN:=R.n
 obtain⟨zs1,⟨d1,hd1,C1⟩,R1,hz1⟩:=(tintFns.at_ c D).at hz R
 exact⟨zs1,⟨d1,by omega,Et (by rw[←hN];omega) C1⟩,R1⟩
theorem Ou(S:San D):Does c D 77 [] 96 D.ni (.bool D.dX):=fun zs hz R=>by
 obtain⟨zs1,⟨d1,hd1,C1⟩,R1,hz1⟩:=(tintFns.phase c D).at hz R
 by_cases hp:D.phase=2
 ·rw[hp] at C1
  by_cases hs:D.scan=0
  ·obtain⟨zs2,⟨d2,hd2,C2⟩,R2,hz2⟩:=(IE (c:=c) hs).at hz1 R1
   cases hr:D.ring with
   |cons b rest=>
    have e:D.dX=true:=by unfold Wd.dX;simp[hp,hr]
    obtain⟨zs3,⟨d3,hd3,C3⟩,R3,hz3⟩:=(LD (c:=c) hr).at hz2 R2
    unfold Wd.ni
    rw[e,if_pos rfl,if_pos hs,hr]
    exact⟨zs3,⟨d1+d2+d3,by omega,xn C1 C2 C3⟩,R3⟩
   |nil=>
    obtain⟨zs3,⟨d3,hd3,C3⟩,R3,hz3⟩:=(Cj (c:=c) hr).at hz2 R2
    by_cases hk:D.cursor<(D.n:Int)
    ·have e:D.dX=true:=by unfold Wd.dX;simp[hp,hk]
     obtain⟨zs4,⟨d4,hd4,C4⟩,R4,hz4⟩:=(Rf (c:=c) S hk).at hz3 R3
     unfold Wd.ni
     rw[e,if_pos rfl,if_pos hs,hr]
     exact⟨zs4,⟨d1+d2+d3+d4,by omega,sP C1 C2 C3 C4⟩,R4⟩
    ·have e:D.dX=false:=by unfold Wd.dX;simp[hs,hr,hk]
     obtain⟨zs4,⟨d4,hd4,C4⟩,R4,hz4⟩:=(IC (c:=c) hk).at hz3 R3
     rw[rX e,e]
     exact⟨zs4,⟨d1+d2+d3+d4,by omega,sP C1 C2 C3 C4⟩,R4⟩
  ·have e:D.dX=true:=by unfold Wd.dX;simp[hp,hs]
   obtain⟨zs2,⟨d2,hd2,C2⟩,R2,hz2⟩:=(Rh (c:=c) S hs).at hz1 R1
   unfold Wd.ni
   rw[e,if_pos rfl,if_neg hs]
   exact⟨zs2,⟨d1+d2,by omega,BJ C1 C2⟩,R2⟩
 ·have e:=NU hp
  rw[rX e,e]
  exact⟨zs1,⟨d1,by omega,za hp C1⟩,R1⟩
end
def pg:Option Th→Nat
 |none=>2
 |some t=>t.pt.length+2
def kE(F:Int):Option Th→Nat
 |none=>1
 |some t=>((t.pt.length:Int)-F).toNat+1
def whiteT(P:Int)(t:Th):Nat:=if t.mr.color=P then 0 else t.pt.length+2
def jF(D:Wd)(l:List Nat):Nat:=(l.map (fun b:Nat=>pg (D.find ((b:Int)+1)))).sum
def rq(D:Wd):Nat:=bS (whiteT D.parity) D.ts+jF D D.ring
def Hr(D:Wd):Nat:=((D.n:Int)-D.cursor).toNat+rq D+(if D.scan=0 then 0 else kE D.scanF (D.find D.scan))
section
variable {D D':Wd} {t u:Th} {r x:Int} {l:List Nat}
theorem yn(h:∀q,pg (D'.find q)=pg (D.find q)):∀l:List Nat,jF D' l=jF D l:=fun l=>by
 unfold jF
 congr 1
 exact List.map_congr_left (fun b _=>h _)
theorem xP(r:Int)(f:cz→cz)(q:Int):pg ((D.mark r f).find q)=pg (D.find q):=by
 rw[bG]
 cases D.find q with
 |none=>rfl
 |some t=>
  simp only[Option.map_some]
  split<;>rfl
theorem IY(r:Int)(f:cz→cz)(F q:Int):kE F ((D.mark r f).find q)=kE F (D.find q):=by
 rw[bG]
 cases D.find q with
 |none=>rfl
 |some t=>
  simp only[Option.map_some]
  split<;>rfl
theorem Gv(r q:Int):pg ((D.touch r).find q)=pg (D.find q):=by
 unfold Wd.touch
 split
 ·exact xP (D:=D) r (fun m=>{m with color:=D.parity}) q
 ·rfl
theorem Gw(r F q:Int):kE F ((D.touch r).find q)=kE F (D.find q):=by
 unfold Wd.touch
 split
 ·exact IY (D:=D) r (fun m=>{m with color:=D.parity}) F q
 ·rfl
theorem KR(S:San D)(r:Int):rq (D.touch r)≤rq D:=by
 cases ht:D.aU r with
 |false=>
  have e:D.touch r=D:=by unfold Wd.touch;rw[ht];rfl
  rw[e]
  exact Nat.le_refl _
 |true=>
  cases hf:D.find r with
  |none=>unfold Wd.aU at ht;rw[hf] at ht;cases ht
  |some t=>
   obtain⟨htl,er⟩:=ax hf
   have hnb:t.mr.color≠D.parity:=by
    unfold Wd.aU at ht
    rw[hf] at ht
    simp at ht
    exact ht.2
   have e:D.touch r={D.cO r with ring:=if hasB (ints D.ring) (r-1) then D.ring else D.ring++[(r-1).toNat]}:=by unfold Wd.touch;rw[ht];rfl
   have h1:=nH (φ:=whiteT D.parity) (g:=fun t=>{t with mr:={t.mr with color:=D.parity}}) hf (df hf).2.1
   have h2:whiteT D.parity {t with mr:={t.mr with color:=D.parity}}=0:=by unfold whiteT;rw[if_pos rfl]
   have h3:whiteT D.parity t=t.pt.length+2:=by unfold whiteT;rw[if_neg hnb]
   have h4:jF (D.touch r) (D.touch r).ring≤jF D D.ring+(t.pt.length+2):=by
    rw[yn (Gv r)]
    rw[e]
    show jF D (if hasB (ints D.ring) (r-1) then D.ring else D.ring++[(r-1).toNat])≤_
    split
    ·exact Nat.le_add_right _ _
    ·unfold jF
     rw[List.map_append,List.sum_append]
     have e2:(((r-1).toNat:Nat):Int)+1=r:=by omega
     simp only[List.map_cons,List.map_nil,List.sum_cons,List.sum_nil,e2,hf]
     exact Nat.le_refl _
   have h5:bS (whiteT (D.touch r).parity) (D.touch r).ts=bS (whiteT D.parity) (bJ r (fun t=>{t with mr:={t.mr with color:=D.parity}}) D.ts):=by rw[e];rfl
   unfold rq
   rw[h5]
   omega
theorem Ga(r:Int):rq (D.settle r)=rq D:=by
 unfold rq
 have h1:bS (whiteT (D.settle r).parity) (D.settle r).ts=bS (whiteT D.parity) D.ts:=qQ r (fun t=>rfl)
 have h2:jF (D.settle r) (D.settle r).ring=jF D D.ring:=yn (xP r _) D.ring
 rw[h1,h2]
theorem TJ(S:San D)(r:Int)(o:Option Th):rq (D.mG r o)≤rq D:=by
 unfold Wd.mG
 split
 ·exact Nat.le_refl _
 ·split
  ·exact Nat.le_refl _
  ·split
   ·exact Nat.le_trans (KR (S.settle r) r) (Nat.le_of_eq (Ga r))
   ·exact Nat.le_of_eq (Ga r)
theorem IK(r:Int)(o:Option Th):(D.mG r o).n=D.n∧(D.mG r o).scan=D.scan:=by
 unfold Wd.mG
 split
 ·exact⟨rfl,rfl⟩
 ·split
  ·exact⟨rfl,rfl⟩
  ·split
   ·unfold Wd.touch
    split<;>exact⟨rfl,rfl⟩
   ·exact⟨rfl,rfl⟩
theorem Gu(r:Int):(D.touch r).n=D.n∧(D.touch r).scan=D.scan∧(D.touch r).cursor=D.cursor:=by
 unfold Wd.touch
 split<;>exact⟨rfl,rfl,rfl⟩
theorem Ml(S:San D)(hF:0≤D.scanF)(hb:D.dX=true):Hr D.ni+1≤Hr D:=by
 unfold Wd.ni
 rw[hb,if_pos rfl]
 by_cases hs:D.scan=0
 ·rw[if_pos hs]
  cases hr:D.ring with
  |cons b rest=>
   show((D.n:Int)-D.cursor).toNat+(bS (whiteT D.parity) D.ts+jF D rest)+(if(b:Int)+1=0 then 0 else kE 0 (D.find ((b:Int)+1)))+1≤((D.n:Int)-D.cursor).toNat+(bS (whiteT D.parity) D.ts+jF D D.ring)+(if D.scan=0 then 0 else kE D.scanF (D.find D.scan))
   rw[if_neg (by omega),if_pos hs,hr]
   have h1:jF D (b::rest)=pg (D.find ((b:Int)+1))+jF D rest:=by unfold jF;simp
   rw[h1]
   cases D.find ((b:Int)+1) with
   |none=>simp only[pg,kE];omega
   |some t=>simp only[pg,kE];omega
  |nil=>
   have hk:D.cursor<(D.n:Int):=by
    unfold Wd.dX at hb
    rw[hr] at hb
    simp[hs] at hb
    exact hb.2
   have h1:=TJ S (D.cursor+1) (D.find (D.cursor+1))
   obtain⟨e1,e2⟩:=IK (D:=D) (D.cursor+1) (D.find (D.cursor+1))
   show(((D.mG (D.cursor+1) (D.find (D.cursor+1))).n:Int)-(D.cursor+1)).toNat+rq (D.mG (D.cursor+1) (D.find (D.cursor+1)))+(if(D.mG (D.cursor+1) (D.find (D.cursor+1))).scan=0 then 0 else _)+1≤((D.n:Int)-D.cursor).toNat+rq D+(if D.scan=0 then 0 else kE D.scanF (D.find D.scan))
   rw[e1,e2,if_pos hs,if_pos hs]
   omega
 ·rw[if_neg hs]
  have hp:Hr D=((D.n:Int)-D.cursor).toNat+rq D+kE D.scanF (D.find D.scan):=by unfold Hr;rw[if_neg hs]
  rw[hp]
  unfold Wd.uZ
  cases hf:D.find D.scan with
  |none=>
   show((D.n:Int)-D.cursor).toNat+rq D+(if(0:Int)=0 then 0 else _)+1≤_
   rw[if_pos rfl]
   exact Nat.le_refl _
  |some t=>
   simp only
   by_cases hff:D.scanF<(t.pt.length:Int)
   ·rw[if_pos hff]
    have h1:=KR S (nth t.pt D.scanF.toNat)
    obtain⟨e1,e2,e3⟩:=Gu (D:=D) (nth t.pt D.scanF.toNat)
    show(((D.touch (nth t.pt D.scanF.toNat)).n:Int)-(D.touch (nth t.pt D.scanF.toNat)).cursor).toNat+rq (D.touch (nth t.pt D.scanF.toNat))+(if(D.touch (nth t.pt D.scanF.toNat)).scan=0 then 0 else kE (D.scanF+1) ((D.touch (nth t.pt D.scanF.toNat)).find (D.touch (nth t.pt D.scanF.toNat)).scan))+1≤_
    rw[e1,e2,e3,if_neg hs,Gw,hf]
    simp only[kE]
    omega
   ·rw[if_neg hff]
    show((D.n:Int)-D.cursor).toNat+rq D+(if(0:Int)=0 then 0 else _)+1≤_
    rw[if_pos rfl]
    simp only[kE]
    omega
end
def bi:Nat→Wd→Wd
 |0,D=>D
 |n+1,D=>(bi n D).tally
def eY:Nat→Wd→Wd
 |0,D=>D
 |n+1,D=>(eY n D).ni
section
variable {w wr w':World} {p:Pl} {c:Cf} {k m n:Nat} {D D':Wd} {t u:Th}
theorem ic.Ed(h:ic w p c D wr):0≤D.cursor∧0≤D.field∧D.n=c.N∧0≤D.scanF:=by
 obtain⟨zs,m,hG,hR,_⟩:=h
 exact⟨(hR.Lj hG.wz).1.1,(hR.Lj hG.wz).2.1,hR.n,(hR.scans hG.wz).2.1⟩
def CL(N:Nat)(D:Wd):Nat:=((N:Int)*100002+100001-(D.cursor*100002+D.field)).toNat
theorem RQ{N:Nat}(hN:D.n=N)(hc:0≤D.cursor)(hf:0≤D.field)(hfl:D.field≤100000)(hs:∀t,t∈D.live→t.pt.length≤100000)(hb:D.fJ=true):CL N D.tally+1≤CL N D∧D.tally.field≤100000:=by
 have hlt:D.cursor<(N:Int):=by
  unfold Wd.fJ at hb
  rw[hN] at hb
  simp at hb
  exact hb.2
 have key:D.tally.cursor*100002+D.tally.field≥D.cursor*100002+D.field+1∧D.tally.cursor*100002+D.tally.field≤(N:Int)*100002+100000∧D.tally.field≤100000:=by
  unfold Wd.tally
  rw[hb,if_pos rfl]
  unfold Wd.qU
  have e1:(D.move (D.cursor+1) 0).cursor=D.cursor+1∧(D.move (D.cursor+1) 0).field=0:=⟨rfl,rfl⟩
  cases hfd:D.find (D.cursor+1) with
  |none=>
   simp only
   rw[e1.1,e1.2]
   omega
  |some t=>
   have ht:=hs t (ax hfd).1
   simp only
   split
   ·rw[e1.1,e1.2]
    omega
   ·split
    ·show D.cursor*100002+(D.field+1)≥_∧D.cursor*100002+(D.field+1)≤_∧D.field+1≤100000
     omega
    ·show(D.cursor+1)*100002+0≥_∧(D.cursor+1)*100002+0≤_∧(0:Int)≤100000
     omega
 unfold CL
 omega
theorem ic.WI(h:ic w p c D wr)(S:San D)(hN:c.N≤1000):Hr D≤1000000000:=by
 have hcu:=h.Ed
 have hsz:=h.sizes
 have htot:=h.total S
 have hri:=(h.sit S).lens.1
 have h1:bS (whiteT D.parity) D.ts≤100002*bS tN D.ts:=sw 100002 (fun t ht=>by
  have h2:=hsz t ht
  have h3:1≤tN t:=by unfold tN;split<;>omega
  unfold whiteT
  split<;>omega)
 have h2:∀l:List Nat,jF D l≤100002*l.length:=fun l=>by
  induction l with
  |nil=>exact Nat.le_refl _
  |cons b l ih=>
   have e:jF D (b::l)=pg (D.find ((b:Int)+1))+jF D l:=by unfold jF;simp
   have h3:pg (D.find ((b:Int)+1))≤100002:=by
    cases hf:D.find ((b:Int)+1) with
    |none=>exact(show 2≤100002 by decide)
    |some t=>
     have:=hsz t (ax hf).1
     show t.pt.length+2≤_
     omega
   rw[e,List.length_cons]
   omega
 have h3:=h2 D.ring
 have h4:(if D.scan=0 then 0 else kE D.scanF (D.find D.scan))≤100001:=by
  split
  ·omega
  ·cases hf:D.find D.scan with
   |none=>exact(show 1≤100001 by decide)
   |some t=>
    have:=hsz t (ax hf).1
    show((t.pt.length:Int)-D.scanF).toNat+1≤_
    omega
 have h5:((D.n:Int)-D.cursor).toNat≤1000:=by omega
 unfold Hr rq
 omega
end
def Vf(w:World)(p:Pl)(c:Cf)(D1:Wd)(ws:World)(e:Ending)(w':World):Prop:=
 ∃m n:Nat,e=.returned (.int .i64 (n:Int))∧(∀j,j<m→(bi j D1).fJ=true)∧(bi m D1).fJ=false∧
  (∀j,j<n→(eY j ((bi m D1).begin 2)).dX=true)∧(eY n ((bi m D1).begin 2)).dX=false∧
  n+Hr (eY n ((bi m D1).begin 2))≤Hr ((bi m D1).begin 2)∧
  ic w p c (eY n ((bi m D1).begin 2)) w'∧San (eY n ((bi m D1).begin 2))∧Touch (ah p) ws w'
def RunT(w:World)(p:Pl)(c:Cf)(k:Nat)(D1:Wd)(ws:World)(m:Nat)(wx:World):Prop:=
 ∃i,ic w p c (bi i D1) wx∧(∀j,j<i→(bi j D1).fJ=true)∧bz c (k+2+i) (bi i D1)∧(bi i D1).field≤100000∧i+m≤200000000∧CL c.N (bi i D1)≤m∧Touch (ah p) ws wx
set_option maxHeartbeats 2000000 in
theorem RX{w ws:World}{p:Pl}{c:Cf}{k:Nat}{D:Wd}(h:ic w p c D ws)(I:bz c k D)(hk:k≤1000)(hN:c.N≤1000):
  Calls Tryz.prog 20 #[.pointer (some ⟨p.a,0,none⟩)] ws (Vf w p c (D.turn.begin 1) ws):=by
 have I1:bz c (k+2) (D.turn.begin 1):=I.turn.begin_ 1
 have hf0:(D.turn.begin 1).field≤100000:=show(0:Int)≤100000 by decide
 have HS:=hid h
 have HI1:=hid I1
 have HF0:=hid hf0
 have HK:=hid (And.intro hk hN)
 obtain⟨vt,ht⟩:=tintFns.turn c D
 have HTu:=hid ht
 have HBe:=hid (ld_begin (c:=c) (D:=D.turn) 1 (by decide) (by decide))
 clear h I I1 ht hk hN hf0
 generalize D.turn.begin 1=D1 at*
 obtain⟨μ,hμ⟩:=EO (RunT w p c k D1 ws)
 have HM:=hid hμ
 clear hμ
 go_enter Tryz.func20,Tryz.ntmps20
 go_wp2_with fail
 refine(HS.out.does HTu.out).mono ?_
 rintro e w1 ⟨rfl,h1,hT1⟩
 have HS1:=hid h1
 have HT1:=hid hT1
 clear h1 hT1
 go_wp2_with fail
 refine(HS1.out.does HBe.out).mono ?_
 rintro e w2 ⟨rfl,h2,hT2⟩
 have H0:Hid (∃m,RunT w p c k D1 ws m w2):=hid ⟨CL c.N D1,0,h2,fun j hj=>by omega,HI1.out,HF0.out,by
  have h3:=ic.Ed (D:=D1) h2
  have h4:=HK.out.2
  unfold CL
  omega,Nat.le_refl _,HT1.out.trans hT2⟩
 clear h2 hT2
 go_wp2_with fail
 generalize hw2:w2=wy at*
 clear hw2
 go_loopw [] (fun wx=>∃m,RunT w p c k D1 ws m wx) (fun wx=>μ wx)
 case atStart=>exact H0.out
 case round=>
  obtain⟨m0,hm0⟩:=hrel
  obtain⟨⟨i,hS,hj,hI,hf,hi,hr,hT⟩,_⟩:=HM.out wr m0 hm0
  clear hm0
  have HSx:=hid hS
  have hcu:=hS.Ed
  have HTy:=hid (Ov (c:=c) hI.san (fun q=>by have h1:=hI.bd.fE q;have h2:=HK.out.1;omega))
  have HTx:=hid hT
  cases hb:(bi i D1).fJ with
  |true=>
   rw[hb] at HTy
   obtain⟨hlt,hfl⟩:=RQ (N:=c.N) hcu.2.2.1 hcu.1 hcu.2.1 hf hS.sizes hb
   have HJ:Hid (∀j,j<i+1→(bi j D1).fJ=true):=hid (fun j h=>by
    by_cases e:j=i
    ·rw[e];exact hb
    ·exact hj j (by omega))
   have HIx:Hid (bz c (k+2+(i+1)) (bi (i+1) D1)):=hid hI.tally
   have HFx:Hid ((bi (i+1) D1).field≤100000):=hid hfl
   obtain⟨m,hme⟩:∃m,m+1=μ wr:=⟨μ wr-1,by omega⟩
   have HK2:Hid (i+1+m≤200000000∧CL c.N (bi (i+1) D1)≤m):=hid ⟨by omega,by have:CL c.N (bi (i+1) D1)+1≤CL c.N (bi i D1):=hlt;omega⟩
   have HMe:=hid hme
   clear hS hcu hb hlt hfl hI hf hi hr hT hj hme
   go_wp2_with fail
   refine(HSx.out.does HTy.out).mono ?_
   rintro e w3 ⟨rfl,h3,hT3⟩
   have HE:Hid (RunT w p c k D1 ws m w3):=hid ⟨i+1,h3,HJ.out,HIx.out,HFx.out,HK2.out.1,HK2.out.2,HTx.out.trans hT3⟩
   clear h3 hT3
   go_wp2_with fail
   go_roundw
   case rel=>exact⟨m,HE.out⟩
   case measure=>
    have h1:=(HM.out w3 m HE.out).2
    have h2:=HMe.out
    omega
  |false=>
   rw[hb] at HTy
   have HTy2:=hid (HTy.out.as rfl (JA hb))
   have HBe2:=hid (ld_begin (c:=c) (D:=bi i D1) 2 (by decide) (by decide))
   have HS2:Hid (San ((bi i D1).begin 2)):=hid (hI.san.same_but rfl rfl rfl rfl (fun b hb=>.inl hb))
   have HJ:=hid hj
   have HB:=hid hb
   clear hS hcu hb hI hf hi hr hT hj HTy
   go_wp2_with fail
   refine(HSx.out.does HTy2.out).mono ?_
   rintro e w3 ⟨rfl,h3,hT3⟩
   have HS3:=hid h3
   have HT3:=hid (HTx.out.trans hT3)
   clear h3 hT3
   go_wp2_with fail
   refine(HS3.out.does HBe2.out).mono ?_
   rintro e w4 ⟨rfl,h4,hT4⟩
   have HS4:=hid h4
   have HT4:=hid (HT3.out.trans hT4)
   have HPb:=hid (ic.WI h4 HS2.out HK.out.2)
   clear h4 hT4
   go_wp2_with fail
   generalize hw4:w4=wz at*
   clear hw4
   go_loopw [3] (fun x wx=>∃n:Nat,x=.int .i64 (n:Int)∧ic w p c (eY n ((bi i D1).begin 2)) wx∧San (eY n ((bi i D1).begin 2))∧(∀j,j<n→(eY j ((bi i D1).begin 2)).dX=true)∧n+Hr (eY n ((bi i D1).begin 2))≤Hr ((bi i D1).begin 2)∧Touch (ah p) ws wx) (fun x _=>Hr ((bi i D1).begin 2)+1-(intOf x).toNat)
   case atStart=>exact⟨0,rfl,HS4.out,HS2.out,fun j hj=>by omega,by show 0+Hr ((bi i D1).begin 2)≤_;omega,HT4.out⟩
   case round=>
    obtain⟨n,rfl,hS,hsn,hj,hpt,hT⟩:=hrel
    have HSx:=hid hS
    have HSn:=hid hsn
    have HJn:=hid hj
    have HPt:=hid hpt
    have HTx:=hid hT
    have HFl:=hid (Ou (c:=c) hsn)
    have hpb:=HPb.out
    cases hb:(eY n ((bi i D1).begin 2)).dX with
    |true=>
     rw[hb] at HFl
     have hlt:Hr (eY (n+1) ((bi i D1).begin 2))+1≤Hr (eY n ((bi i D1).begin 2)):=Ml hsn hS.Ed.2.2.2 hb
     have HPn:Hid (n+1+Hr (eY (n+1) ((bi i D1).begin 2))≤Hr ((bi i D1).begin 2)):=hid (by omega)
     have HSn2:Hid (San (eY (n+1) ((bi i D1).begin 2))):=hid hsn.ni
     have HJn2:Hid (∀j,j<n+1→(eY j ((bi i D1).begin 2)).dX=true):=hid (fun j h=>by
      by_cases e:j=n
      ·rw[e];exact hb
      ·exact hj j (by omega))
     have hnb:n<1000000000:=by omega
     clear hS hsn hj hpt hT hb hlt hpb
     go_wp2_with fail
     refine(HSx.out.does HFl.out).mono ?_
     rintro e w5 ⟨rfl,h5,hT5⟩
     have HS5:Hid (ic w p c (eY (n+1) ((bi i D1).begin 2)) w5):=hid h5
     have HT5:=hid (HTx.out.trans hT5)
     clear h5 hT5
     go_wp2_with fail
     go_roundw
     case rel=>exact⟨n+1,by go_num,HS5.out,HSn2.out,HJn2.out,HPn.out,HT5.out⟩
     case measure=>
      have:=HPn.out
      simp[intOf]
      omega
    |false=>
     rw[hb] at HFl
     have HFl2:=hid (HFl.out.as rfl (rX hb))
     have HBf:=hid hb
     clear hS hsn hj hpt hT hb hpb HFl
     go_wp2_with fail
     refine(HSx.out.does HFl2.out).mono ?_
     rintro e w5 ⟨rfl,h5,hT5⟩
     have HS5:=hid h5
     have HT5:=hid (HTx.out.trans hT5)
     clear h5 hT5
     go_wp2_with fail
     go_ret
     exact⟨i,n,rfl,HJ.out,HB.out,HJn.out,HBf.out,HPt.out,HS5.out,HSn.out,HT5.out⟩
end Go.Proofs.YtjmifnljckmimaaGreat.Pk
