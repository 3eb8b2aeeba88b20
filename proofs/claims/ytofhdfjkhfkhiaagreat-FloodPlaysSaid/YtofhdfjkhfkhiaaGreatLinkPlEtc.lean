/-
  Texts laid together: LinkPl, LinkPi, RefT, RefXT, Tally, TallyBeg, TallyNob, TallyCnt, TallyHold, FloodW, FloodRep.
-/
import Derived.Test.YtofhdfjkhfkhiaaGreatRefG7Etc
import Derived.Test.YtofhdfjkhfkhiaaGreatLinkLawEtc
import Derived.Test.YtofhdfjkhfkhiaaGreatGravGrownEtc
import Derived.Test.YtofhdfjkhfkhiaaGreatTintActFEtc
import Derived.Test.YtofhdfjkhfkhiaaGreatRefSeeEtc
import Derived.Test.YtofhdfjkhfkhiaaGreatTintFn4Etc
import Derived.Test.YtofhdfjkhfkhiaaGreatRefMkEtc
namespace Go.Proofs.YtofhdfjkhfkhiaaGreat.Pk
open Lib (hid)
open Go.RowKit
set_option linter.unusedVariables false
set_option linter.unusedSimpArgs false
set_option maxRecDepth 100000
section
variable {c:Cf} {zs zs':List Int} {D D':Wd} {t u:Th} {r x y:Int} {w wr w':World} {p:Pl} {q lo m k n:Nat}
structure Sit (c:Cf) (D:Wd):Prop where
 san:San D
 iK:∃zs,Wz c zs∧au c zs D
theorem RSt.sit(h:RSt w p c D wr)(S:San D):Sit c D:=by
 obtain⟨zs,m,hG,hR,_⟩:=h
 exact⟨S,zs,hG.wz,hR⟩
theorem Sit.wb(h:Sit c D)(hN:c.N≤1000):WB D:=by
 obtain⟨zs,hz,R⟩:=h.iK
 have hp:=h.san.pendBd R hz.may
 have h1:=bN R.ring.nd R.ring.lt
 have h2:(D.grave.map (· -1)).length≤c.N:=bN R.grave.nd R.grave.lt
 have h3:=bN R.heap.pl.ch.nd R.heap.pl.ch.lt
 rw[List.length_map] at h2
 refine⟨by omega,by omega,by omega,hp.1,by omega,fun r t hf=> ?_,fun r t hf=> ?_,fun r t hf=> ?_⟩
 ·have:=(R.sizes hz (find_live hf).1).2;omega
 ·exact R.Qx hz (find_live hf).1
 ·have e:=(R.own t (find_live hf).1).w4
  have:=hz.wf (ae c t.h 4)
  rw[←e]
  exact this
theorem Sit.lens(h:Sit c D):D.ring.length≤c.N∧D.grave.length≤c.N∧D.clean.length≤c.N:=by
 obtain⟨zs,hz,R⟩:=h.iK
 have h1:=bN R.ring.nd R.ring.lt
 have h2:(D.grave.map (· -1)).length≤c.N:=bN R.grave.nd R.grave.lt
 have h3:=bN R.heap.pl.ch.nd R.heap.pl.ch.lt
 rw[List.length_map] at h2
 exact⟨h1,h2,h3⟩
theorem Sit.II(h:Sit c D)(ht:t∈D.live):ES D.w t:=by
 obtain⟨zs,hz,R⟩:=h.iK
 exact R.II hz.may h.san ht
theorem Sit.wd(h:Sit c D):D.w=c.W∧c.May:=by
 obtain⟨zs,hz,R⟩:=h.iK
 exact⟨R.w,hz.may⟩
theorem Sit.step(h:Sit c D):Sit c D.step:=by
 obtain⟨zs,hz,R⟩:=h.iK
 obtain⟨zs1,_,R1,hz1⟩:=(zT (c:=c) h.san).at hz R
 exact⟨h.san.step,zs1,hz1,R1⟩
theorem Sit.UD(hN:c.N≤1000):Stp (Sit c) where
 wb:=fun D h=>h.wb hN
 san:=fun D h=>h.san
 w1:=fun D h=>by have:=h.wd;have:=this.2.w;omega
 pt:=fun D h t ht=>by have:=(h.II ht).small;omega
 step:=fun D h=>h.step
theorem Sit.Pp(h:Sit c D)(hf:D.find r=some t)(hd:t.mr.dead=false){k:Nat}(hk:k<t.pt.length+t.dt.length):dS D.w t k=false:=by
 obtain⟨htl,_⟩:=find_live hf
 have z:=h.II htl
 unfold dS
 by_cases hb:t.pt.length+t.dt.length≤D.w-8
 ·simp[hb]
 ·have hj:=z.leaf hb hk
  obtain⟨b,hbb⟩:=(h.san.ok t htl).alive hd _ hj
  have:nth t.lv (k/(D.w-1))=(b:Int):=by unfold nth;rw[List.getD_eq_getElem?_getD,hbb];rfl
  rw[this]
  simp
theorem Cg(r:Int)(i:Nat)(x:Int):∃l,(D.drain r i x).grave=D.grave++l:=by
 have key:∀D2:Wd,D2.grave=D.grave→∃l,(if(D2.down x).cnt x=0 then(D2.down x).bury x else D2.down x).grave=D.grave++l:=fun D2 h2=>by
  split
  ·obtain⟨l,hl⟩:=Fb (D:=D2.down x) x
   exact⟨l,by rw[hl];show D2.grave++l=_;rw[h2]⟩
  ·exact⟨[],by rw[List.append_nil];exact h2⟩
 unfold Wd.drain
 by_cases hc:(D.setP r i 0).cnt x=0
 ·rw[if_pos hc];exact⟨[],by rw[List.append_nil];rfl⟩
 ·rw[if_neg hc]
  refine key _ ?_
  split
  ·exact(fT (D:=D.setP r i 0) x).2.1
  ·rfl
theorem Hu:∀(k:Nat) {D:Wd} {g:Nat} {rest:List Nat} {t:Th},San D→D.grave=g::rest→D.find (g:Int)=some t→t.mr.left-D.ahead t.mr.leaves≤(k:Int)→Ends (k+1) D
 |0,D,g,rest,t,S,hg,hf,hk=>by
  right;left
  unfold Wd.gives
  rw[hg]
  simp only
  rw[hf]
  simp
  omega
 |k+1,D,g,rest,t,S,hg,hf,hk=>by
  right
  by_cases ha:D.ahead t.mr.leaves<t.mr.left
  ·right
   obtain⟨t',_,_,hf',hd,d,es⟩:=S.head hg
   rw[hf] at hf'
   cases hf'
   have hst:D.step=(D.drain (g:Int) (t.mr.left-1).toNat (nth t.pt (t.mr.left-1).toNat)).mark (g:Int) (fun m=>{m with left:=t.mr.left-1}):=by
    rw[es]
    unfold Wd.work
    rw[if_pos ha]
   obtain⟨l,hl⟩:=Cg (D:=D) (g:Int) (t.mr.left-1).toNat (nth t.pt (t.mr.left-1).toNat)
   obtain⟨f,h1,h2,h3,h4⟩:=pV hf hd (t.mr.left-1).toNat (nth t.pt (t.mr.left-1).toNat)
   have hg2:D.step.grave=g::(rest++l):=by rw[hst];show(D.drain _ _ _).grave=_;rw[hl,hg];rfl
   have hf2:D.step.find (g:Int)=some {t with pt:=t.pt.set (t.mr.left-1).toNat 0,mr:={f t.mr with left:=t.mr.left-1}}:=by
    rw[hst,find_mark,h1]
    have:=find_at_r h1
    simp only[Option.map_some,this,if_true]
   have hw:D.step.w=D.w:=by rw[hst];exact(Ht (D:=D) (r:=(g:Int)) _ _).1
   refine Hu k S.step hg2 hf2 ?_
   show t.mr.left-1-D.step.ahead (f t.mr).leaves≤(k:Int)
   have:D.step.ahead (f t.mr).leaves=D.ahead t.mr.leaves:=by unfold Wd.ahead;rw[h4,hw]
   rw[this]
   omega
  ·left
   unfold Wd.gives
   rw[hg]
   simp only
   rw[hf]
   simp
   omega
theorem San.ends(S:San D){n:Nat}(hn:D.w≤n):Ends n D:=by
 have hw:=S.w
 cases hg:D.grave with
 |nil=>
  cases n with
  |zero=>exact hg
  |succ n=>exact .inl hg
 |cons g rest=>
  obtain⟨t,htl,_,hf,hd,d,_⟩:=S.head hg
  obtain⟨n',rfl⟩:∃n',n=n'+1:=⟨n-1,by omega⟩
  refine Hu n' S hg hf ?_
  have rU:=(S.ok t htl).rU
  have l0:=d.l0
  have f1:=d.f1
  by_cases hl:0<t.mr.leaves
  ·have hne:t.lv≠[]:=fun e=>by have:=d.l1;rw[e] at this;simp at this;omega
   have h1:=d.fl hne
   rw[yB S hl]
   have h2:(t.mr.leaves-1)*((D.w:Int)-1)=t.mr.leaves*((D.w:Int)-1)-((D.w:Int)-1):=by rw[Int.sub_mul,Int.one_mul]
   rw[h2]
   omega
  ·have h0:t.mr.leaves=0:=by omega
   rw[h0,ahead_zero]
   by_cases hb:t.pt.length+t.dt.length≤D.w-8
   ·omega
   ·have h1:=d.fl (rU.big hb).1
    rw[h0,Int.zero_mul] at h1
    omega
set_option maxHeartbeats 1000000 in
theorem FK(h:RSt w p c D wr)(S:San D):
  Calls Tryz.prog 73 #[.pointer (some ⟨p.a,0,none⟩)] wr fun e w'=>e=.returned (.bool (D.gY (c.W*c.W)))∧(RSt w p c (D.fM (c.W*c.W)) w'∧San (D.fM (c.W*c.W)))∧Touch (inG p) wr w':=by
 have hw:=(h.sit S).wd.2.w
 have HC:=hid h.SQ
 have H0:=hid h
 have HS:=hid S
 have hmm:(c.W:Int)*(c.W:Int)=((c.W*c.W:Nat):Int):=(Int.natCast_mul _ _).symm
 have hml:c.W*c.W≤256*256:=Nat.mul_le_mul (by omega) (by omega)
 have hwr:IntKind.i64.wrap ((c.W:Int)*(c.W:Int))=((c.W*c.W:Nat):Int):=by rw[hmm];exact IntWalk.i64_in _ (by omega)
 have hfc:=cfield1 (c.N:Int) (c.W:Int) (c.R:Int) (c.K:Int)
 generalize hMd:c.W*c.W=M at*
 clear h S hw hmm hMd
 go_enter Tryz.func73,Tryz.ntmps73
 go_wp2_with fail
 refine HC.out.mono ?_
 rintro e w1 ⟨rfl,hb⟩
 have H1:=hid (H0.out.later hb)
 have T1:=hid (Touch.of_below (X:=inG p) hb)
 clear hb
 go_wp2_with fail
 go_loopw [12] (fun s wx=>∃i:Nat,i≤M∧s=.int .i64 (i:Int)∧∃D',RSt w p c D' wx∧San D'∧D'.fM (M-i)=D.fM M∧D'.gY (M-i)=D.gY M∧Touch (inG p) wr wx) (fun s _=>M-(intOf s).toNat)
 case atStart=>exact⟨0,Nat.zero_le _,rfl,D,H1.out,HS.out,rfl,rfl,T1.out⟩
 case round=>
  obtain⟨i,hi,rfl,D',hR,hS,e1,e2,hT⟩:=hrel
  have HR:=hid hR
  have HT:=hid hT
  have HSn:=hid hS
  by_cases hlt:i<M
  ·have pU:=hid (zT (c:=c) hS)
   have hmi:M-i=(M-(i+1))+1:=by omega
   rw[hmi] at e1 e2
   cases hg:D'.grave.isEmpty with
   |true=>
    have E:Hid (D'.step=D.fM M∧false=D.gY M∧D'.step=D'):=hid (by
     have hs:D'.step=D':=by
      unfold Wd.step
      have:=List.isEmpty_iff.1 hg
      rw[this]
     rw[hs,←e1,←e2]
     unfold Wd.fM Wd.gY
     rw[hg]
     exact⟨rfl,rfl,rfl⟩)
    have hgv:D'.gives=false:=by
     unfold Wd.gives
     rw[List.isEmpty_iff.1 hg]
    rw[hg,hgv] at pU
    clear hR hS e1 e2 hT hg hgv
    go_wp2_with fail
    refine(HR.out.does pU.out).mono ?_
    rintro e w2 ⟨rfl,h2,k2⟩
    have H2:=hid h2
    have T2:=hid (HT.out.trans k2)
    clear h2 k2
    go_wp2_with fail
    go_ret
    exact⟨by rw[←E.out.2.1];rfl,⟨by rw[←E.out.1];exact H2.out,by rw[←E.out.1];exact HSn.out.step⟩,T2.out⟩
   |false=>
    cases hgv:D'.gives with
    |true=>
     have E:Hid (D'.step=D.fM M∧true=D.gY M):=hid (by
      rw[←e1,←e2]
      unfold Wd.fM Wd.gY
      rw[hg,hgv]
      exact⟨rfl,rfl⟩)
     rw[hg,hgv] at pU
     clear hR hS e1 e2 hT hg hgv
     go_wp2_with fail
     refine(HR.out.does pU.out).mono ?_
     rintro e w2 ⟨rfl,h2,k2⟩
     have H2:=hid h2
     have T2:=hid (HT.out.trans k2)
     clear h2 k2
     go_wp2_with fail
     go_ret
     exact⟨by rw[←E.out.2];rfl,⟨by rw[←E.out.1];exact H2.out,by rw[←E.out.1];exact HSn.out.step⟩,T2.out⟩
    |false=>
     have E:Hid (D'.step.fM (M-(i+1))=D.fM M∧D'.step.gY (M-(i+1))=D.gY M):=hid (by
      rw[←e1,←e2]
      constructor
      ·conv=>rhs;unfold Wd.fM
       rw[hg,hgv]
       rfl
      ·conv=>rhs;unfold Wd.gY
       rw[hg,hgv]
       rfl)
     rw[hg,hgv] at pU
     clear hR hS e1 e2 hT hg hgv
     go_wp2_with fail
     refine(HR.out.does pU.out).mono ?_
     rintro e w2 ⟨rfl,h2,k2⟩
     have H2:=hid h2
     have T2:=hid (HT.out.trans k2)
     clear h2 k2
     go_wp2_with fail
     go_roundw
     case rel=>exact⟨i+1,by omega,by go_num,_,H2.out,HSn.out.step,E.out.1,E.out.2,T2.out⟩
     case measure=>simp[intOf];omega
  ·have E:Hid (D'=D.fM M∧false=D.gY M):=hid (by
    rw[←e1,←e2,show M-i=0 by omega]
    exact⟨rfl,rfl⟩)
   clear hR hS e1 e2 hT
   go_wp2_with fail
   go_ret
   exact⟨by rw[←E.out.2];rfl,⟨by rw[←E.out.1];exact HR.out,by rw[←E.out.1];exact HSn.out⟩,HT.out⟩
theorem zu(l pool:List Nat):∀k,iZ c l pool k≤k*(c.W+7)
 |0=>by simp[iZ]
 |k+1=>by
  have:=zu l pool k
  have ht:takeD (l.drop (k+1)++pool)≤7:=by unfold takeD;split<;>omega
  show iZ c l pool k+(takeD (l.drop (k+1)++pool)+c.W)≤_
  rw[Nat.add_mul]
  omega
theorem JC(D:Wd)(x y:Int)(h:Od w p c D m wr):
  Calls Tryz.prog 53 #[.pointer (some ⟨p.a,0,none⟩),.int .i64 x,.int .i64 y] wr fun e w'=>e=.returned (.tuple #[.int .i64 (D.mkR x y),.int .i64 (D.mkE x y)])∧(∃d,d≤8+2*c.W*(if D.mkE x y=0 then 1+D.uI x y else 0)∧Od w p c (D.jl x y) (m+d) w')∧Touch (inG p) wr w':=by
 obtain⟨zs,hG,hR,hp,hB⟩:=h
 have hW:(D.w:Int)=(c.W:Int):=by rw[hR.w]
 by_cases h0:D.mkE x y=0
 ·obtain⟨hs,ex,ey,_,_,hcl,hk⟩:=FW h0
  have hH:=hR.heap
  rw[hcl] at hH
  rw[hW] at hs hk
  have H:=tN (s:=⟨zs,m⟩) (w:=wr) D.mkB x.toNat y.toNat (D.clean.tail.take (D.uI x y)) (D.clean.tail.drop (D.uI x y)) D.bH hG hH (by rw[ex,ey];exact hs) (by rw[ex,ey];exact hk)
  have hM:=Ip (h:=D.mkB) (ls:=D.clean.tail.take (D.uI x y)) (pool:=D.clean.tail.drop (D.uI x y)) (os:=D.bH) (p:=x.toNat) (d:=y.toNat) hG.wz.may hG.wz.len hH (by rw[ex,ey];exact hs) (by rw[ex,ey];exact hk)
  rw[ex,ey] at H hM
  refine H.mono ?_
  rintro e w' ⟨rfl,hG',hT⟩
  refine⟨by unfold Wd.mkR;rw[h0];rfl,⟨_,?_,_,hG',?_,hp,hB.trans (hT.below hp hB.size)⟩,hT⟩
  ·rw[if_pos h0]
   have hlen:(D.clean.tail.take (D.uI x y)).length≤D.uI x y:=by rw[List.length_take];omega
   have h1:=zu (c:=c) (D.mkB::D.clean.tail.take (D.uI x y)) (D.clean.tail.drop (D.uI x y)) (D.mkB::D.clean.tail.take (D.uI x y)).length
   have hw:=hG.wz.may.w
   unfold yV
   generalize D.clean.tail.take (D.uI x y)=L at*
   rw[List.length_cons] at h1 ⊢
   generalize D.uI x y=K at*
   have h2:(L.length+1)*(c.W+7)≤(K+1)*(c.W+7):=Nat.mul_le_mul_right _ (by omega)
   have h3:(K+1)*(c.W+7)+(K+1)*9≤(K+1)*(2*c.W):=by rw[←Nat.mul_add];exact Nat.mul_le_mul_left _ (by omega)
   have h4:2*c.W*(1+K)=(K+1)*(2*c.W):=by rw[Nat.mul_comm,Nat.add_comm]
   rw[h4]
   omega
  ·unfold Wd.jl
   rw[if_pos h0]
   exact hM.iK hR hG.may hcl
 ·have hD:D.jl x y=D:=by unfold Wd.jl;rw[if_neg h0]
  have hRv:D.mkR x y=0:=by unfold Wd.mkR;rw[if_neg h0]
  rw[hD,hRv]
  by_cases hs:aW (D.w:Int) x y=0
  ·have hl:(D.clean.length:Int)<aM (D.w:Int) x y:=by
    by_cases hl:(D.clean.length:Int)<aM (D.w:Int) x y
    ·exact hl
    ·exact absurd (by unfold Wd.mkE;rw[if_pos hs,if_neg hl]) h0
   have hE:D.mkE x y=4:=by unfold Wd.mkE;rw[if_pos hs,if_pos hl]
   rw[hE]
   rw[hW] at hs hl
   refine(qK (s:=⟨zs,m⟩) (w:=wr) x y D.clean hG hR.heap.pl.ch hs hl).mono ?_
   rintro e w' ⟨rfl,hG',hT⟩
   exact⟨rfl,⟨1,by omega,zs,hG',hR,hp,hB.trans (hT.below hp hB.size)⟩,hT⟩
  ·have hE:D.mkE x y=aW (c.W:Int) x y:=by unfold Wd.mkE;rw[if_neg hs,hW]
   rw[hE]
   rw[hW] at hs
   refine(qL (s:=⟨zs,m⟩) (w:=wr) x y hG hs).mono ?_
   rintro e w' ⟨rfl,hG',hT⟩
   exact⟨rfl,⟨0,by omega,zs,hG',hR,hp,hB.trans (hT.below hp hB.size)⟩,hT⟩
end
section
variable {c:Cf} {D D':Wd} {t u:Th} {r x y:Int} {k K N n:Nat}
def BDf(k:Nat)(D:Wd):Prop:=∀q t,D.find q=some t→t.mr.refs≤(k:Int)∧t.mr.shadow≤(k:Int)
theorem BDf.mono(h:BDf k D)(hk:k≤K):BDf K D:=fun q t hf=>by have:=h q t hf;omega
theorem BDf.ts(h:BDf k D)(e:D'.ts=D.ts):BDf k D':=fun q t hf=>h q t (by unfold Wd.find at *;rw[←e];exact hf)
theorem BDf.upd(h:BDf k D)(r:Int)(g:Th→Th)(hk:k≤K)(hg:∀t,(g t).ended=t.ended∧(g t).h=t.h)(h1:∀t,D.find r=some t→(g t).mr.refs≤(K:Int)∧(g t).mr.shadow≤(K:Int)):BDf K (D.upd r g):=fun q s hs=>by
 rw[find_upd hg] at hs
 cases hq:D.find q with
 |none=>rw[hq] at hs;cases hs
 |some t=>
  rw[hq] at hs
  simp only[Option.map_some,Option.some.injEq] at hs
  by_cases e:t.at r=true
  ·rw[if_pos e] at hs
   have hr:q=r:=by
    have:=(find_live hq).2
    unfold Th.at at e
    simp at e
    omega
   subst hs
   exact h1 t (by rw[←hr];exact hq)
  ·rw[if_neg e] at hs
   subst hs
   have:=h q t hq
   omega
theorem BDf.mark(h:BDf k D)(r:Int)(f:Mrk→Mrk)(hk:k≤K)(h1:∀t,D.find r=some t→(f t.mr).refs≤(K:Int)∧(f t.mr).shadow≤(K:Int)):BDf K (D.mark r f):=
 h.upd r (fun t=>{t with mr:=f t.mr}) hk (fun _=>⟨rfl,rfl⟩) h1
theorem BDf.keep(h:BDf k D)(r:Int)(f:Mrk→Mrk)(h1:∀m,(f m).refs≤m.refs)(h2:∀m,(f m).shadow≤m.shadow):BDf k (D.mark r f):=
 h.mark r f (Nat.le_refl _) (fun t ht=>by have:=h r t ht;have:=h1 t.mr;have:=h2 t.mr;omega)
theorem BDf.setP(h:BDf k D)(r:Int)(i:Nat)(x:Int):BDf k (D.setP r i x):=h.upd r (fun t=>{t with pt:=t.pt.set i x}) (Nat.le_refl _) (fun _=>⟨rfl,rfl⟩) (fun t ht=>h r t ht)
theorem BDf.touch(h:BDf k D)(r:Int):BDf k (D.touch r):=by
 rcases iG (D:=D) r with e|e
 ·exact h.ts e
 ·exact(h.keep r (fun m=>{m with color:=D.parity}) (fun _=>Int.le_refl _) (fun _=>Int.le_refl _)).ts e
theorem BDf.more(h:BDf k D)(r:Int):BDf (k+1) (D.more r):=
 (h.mark r (fun m=>{m with refs:=m.refs+1}) (Nat.le_succ k) (fun t ht=>by have:=h r t ht;show t.mr.refs+1≤_∧t.mr.shadow≤_;omega)).touch r
theorem BDf.down(h:BDf k D)(r:Int):BDf k (D.down r):=h.keep r (fun m=>{m with refs:=m.refs-1}) (fun m=>by show m.refs-1≤m.refs;omega) (fun _=>Int.le_refl _)
theorem BDf.lighten(h:BDf k D)(r:Int):BDf k (D.lighten r):=by
 unfold Wd.lighten
 split
 ·exact h.keep r (fun m=>{m with shadow:=m.shadow-1}) (fun _=>Int.le_refl _) (fun m=>by show m.shadow-1≤m.shadow;omega)
 ·exact h
theorem BDf.bury(h:BDf k D)(x:Int):BDf k (D.bury x):=by
 unfold Wd.bury
 cases hf:D.find x with
 |none=>exact h
 |some t=>
  simp only
  split
  ·exact h
  ·have:BDf k (D.upd x (fun s=>{s with mr:={s.mr with dead:=true,left:=(t.pt.length:Int),leaves:=(t.lv.length:Int)}})):=h.upd x _ (Nat.le_refl _) (fun _=>⟨rfl,rfl⟩) (fun u hu=>h x u hu)
   exact this.ts (lay_ts x t)
theorem BDf.inter(h:BDf k D)(x:Int):BDf k (D.inter x):=by
 unfold Wd.inter
 split
 ·exact h.bury x
 ·exact h
theorem BDf.less(h:BDf k D)(r:Int):BDf k (D.less r):=((h.down r).ts (D':=(D.down r).pR) rfl).inter r
theorem BDf.drain(h:BDf k D)(r:Int)(i:Nat)(x:Int):BDf k (D.drain r i x):=by
 have key:∀D2:Wd,BDf k D2→BDf k (if(D2.down x).cnt x=0 then(D2.down x).bury x else D2.down x):=fun D2 h2=>by
  split
  ·exact(h2.down x).bury x
  ·exact h2.down x
 unfold Wd.drain
 by_cases hc:(D.setP r i 0).cnt x=0
 ·rw[if_pos hc];exact h.setP r i 0
 ·rw[if_neg hc]
  refine key _ ?_
  split
  ·exact(h.setP r i 0).lighten x
  ·exact h.setP r i 0
theorem BDf.step(h:BDf k D)(S:San D):BDf k D.step:=by
 cases hg:D.grave with
 |nil=>rw[show D.step=D by unfold Wd.step;rw[hg]];exact h
 |cons g rest=>
  obtain⟨t,htl,_,hf,hd,d,es⟩:=S.head hg
  rw[es]
  unfold Wd.work
  split
  ·exact(h.drain _ _ _).keep _ _ (fun _=>Int.le_refl _) (fun _=>Int.le_refl _)
  ·split
   ·have h1:BDf k (D.upd (g:Int) (fun s=>{s with lv:=s.lv.set (t.mr.leaves-1).toNat (-1),mr:={s.mr with leaves:=t.mr.leaves-1}})):=h.upd _ _ (Nat.le_refl _) (fun _=>⟨rfl,rfl⟩) (fun u hu=>h _ u hu)
    exact h1.ts (cut_mark _ _ _ _)
   ·intro q s hs
    have hlive:({({D with grave:=rest}:Wd).endAt (g:Int) t.h with pending:=D.pending-1}:Wd).live=D.live.filter (fun s=>s.h !=t.h):=live_upd_end (g:=fun s=>{s with ended:=true}) (fun _=>rfl) S.nd hf
    obtain⟨hl,e⟩:=find_live hs
    rw[hlive] at hl
    have hl2:=(List.mem_filter.1 hl).1
    have:=S.findIt hl2
    rw[e] at this
    exact h q s this
theorem BDf.put(h:BDf k D)(r:Int)(i:Nat)(x y:Int):BDf (k+1) (D.put r i x y):=by
 have h1:BDf (k+1) (D.bB r i x):=by
  unfold Wd.bB
  split
  ·exact(h.setP r i x).mono (Nat.le_succ k)
  ·exact(h.more x).setP r i x
 unfold Wd.put Wd.ul
 split
 ·exact(h1.touch y).less y
 ·exact h1
def SE(N k:Nat)(l:List Nat):Prop:=l.length≤k∧∀h,h∈l→h<N
theorem wR(x:Int):(D.touch x).ts.map Th.h=D.ts.map Th.h:=by
 rcases iG (D:=D) x with h|h
 ·rw[h]
 ·rw[h];exact mark_hd x _
theorem more_hd(x:Int):(D.more x).ts.map Th.h=D.ts.map Th.h:=(wR x).trans (mark_hd x _)
theorem less_hd(x:Int):(D.less x).ts.map Th.h=D.ts.map Th.h:=(Mg (D:=(D.down x).pR) x).trans (show(D.down x).pR.ts.map Th.h=D.ts.map Th.h from mark_hd (D:=D) x (fun m=>{m with refs:=m.refs-1}))
theorem Rs(r:Int)(i:Nat)(x y:Int):(D.put r i x y).ts.map Th.h=D.ts.map Th.h:=by
 have h1:(D.bB r i x).ts.map Th.h=D.ts.map Th.h:=by
  unfold Wd.bB
  split
  ·exact qW r i x
  ·exact(qW (D:=D.more x) r i x).trans (more_hd x)
 unfold Wd.put Wd.ul
 split
 ·exact(less_hd y).trans ((wR y).trans h1)
 ·exact h1
structure PInv (c:Cf) (k:Nat) (D:Wd):Prop where
 san:San D
 bd:BDf k D
 hd:SE c.N k (D.ts.map Th.h)
theorem PInv.new(c:Cf){v:Nat}(hv:16≤v):PInv c 0 (Wd.new c.N v):=⟨San.new c.N hv,fun q t hf=>by simp[Wd.find,Wd.new,findL] at hf,by simp[Wd.new,SE]⟩
theorem SE.mono{l:List Nat}(h:SE N k l)(hk:k≤K):SE N K l:=⟨Nat.le_trans h.1 hk,h.2⟩
theorem PInv.mono(I:PInv c k D)(hk:k≤K):PInv c K D:=⟨I.san,I.bd.mono hk,I.hd.mono hk⟩
theorem PInv.up(I:PInv c k D):PInv c (k+1) D:=I.mono (Nat.le_succ k)
theorem PInv.to(I:PInv c k D)(S:San D')(B:BDf (k+1) D')(e:D'.ts.map Th.h=D.ts.map Th.h):PInv c (k+1) D':=⟨S,B,by rw[e];exact I.hd.mono (Nat.le_succ k)⟩
theorem PInv.step(I:PInv c k D):PInv c k D.step:=⟨I.san.step,I.bd.step I.san,by rw[PS];exact I.hd⟩
theorem PInv.fM(I:PInv c k D):∀n,PInv c k (D.fM n):=fun n=>by
 induction n generalizing D with
 |zero=>exact I
 |succ n ih=>
  unfold Wd.fM
  split
  ·exact I
  ·split
   ·exact I.step
   ·exact ih I.step
theorem PInv.lu(I:PInv c k D)(r:Int):PInv c (k+1) (D.lu r):=by
 unfold Wd.lu
 split
 ·exact I.to (I.san.less r) ((I.bd.less r).mono (Nat.le_succ k)) (less_hd r)
 ·exact I.up
def Wd.mX(D:Wd)(r:Int):Wd:=if D.aliveB r then D.more r else D
theorem PInv.mX(I:PInv c k D)(r:Int):PInv c (k+1) (D.mX r):=by
 unfold Wd.mX
 split
 ·exact I.to (I.san.more r) (I.bd.more r) (more_hd r)
 ·exact I.up
theorem PInv.put(I:PInv c k D)(hf:D.find r=some t)(hd:t.mr.dead=false)(i:Nat)(x y:Int):PInv c (k+1) (D.put r i x y):=
 I.to (I.san.Ur hf hd) (I.bd.put r i x y) (Rs r i x y)
theorem PInv.turn(I:PInv c k D):PInv c (k+1) D.turn:=I.to (I.san.same_but rfl rfl rfl rfl (fun b hb=>.inl hb)) ((I.bd.mono (Nat.le_succ k)).ts rfl) rfl
theorem PInv.nG(I:PInv c k D)(i:Int):PInv c (k+1) (D.nG i):=by
 unfold Wd.nG
 split
 ·exact I.to (I.san.same_but rfl rfl rfl rfl (fun b hb=>.inl hb)) ((I.bd.mono (Nat.le_succ k)).ts rfl) rfl
 ·exact I.up
theorem PInv.bv(I:PInv c k D)(r:Int):PInv c (k+1) (D.bv r):=by
 refine I.to (I.san.mark r (fun _=>rfl) (fun _=>rfl) (fun _=>rfl)) (I.bd.mark r _ (Nat.le_succ k) (fun t ht=> ?_)) (mark_hd r _)
 have h1:=I.bd r t ht
 refine⟨by show t.mr.refs≤_;omega,?_⟩
 show D.shd r+1≤_
 unfold Wd.shd
 rw[ht]
 show(if t.mr.shade=D.parity then t.mr.shadow else 0)+1≤_
 split<;>omega
theorem PInv.done(I:PInv c k D)(r:Int):PInv c (k+1) (D.done r):=
 I.to (I.san.mark r (fun _=>rfl) (fun _=>rfl) (fun _=>rfl)) ((I.bd.keep r (fun m=>{m with count:=D.parity}) (fun _=>Int.le_refl _) (fun _=>Int.le_refl _)).mono (Nat.le_succ k)) (mark_hd r _)
theorem yL:∀{l1 l2:List Th} {q:Int} {s:Th},findL q (l1++l2)=some s→findL q l1=some s∨findL q l2=some s
 |[],l2,q,s,h=>.inr h
 |u::l,l2,q,s,h=>by
  have e0:findL q ((u::l)++l2)=if u.at q then some u else findL q (l++l2):=rfl
  have e1:findL q (u::l)=if u.at q then some u else findL q l:=rfl
  rw[e0] at h
  rw[e1]
  by_cases e:u.at q=true
  ·rw[if_pos e] at h ⊢;exact .inl h
  ·rw[if_neg e] at h ⊢;exact yL h
theorem PInv.born(I:PInv c k D)(B:BornOk D x y c.N):PInv c (k+1) (D.born x y):=by
 refine⟨B.Uv I.san,?_,?_⟩
 ·unfold Wd.born
  split
  ·rename_i hE
   have h1:BDf k (D.jl x y):=by
    unfold Wd.jl
    rw[if_pos hE]
    intro q s hs
    have hs:findL q (D.ts++[_])=some s:=hs
    rcases yL hs with h|h
    ·exact I.bd q s h
    ·have:s=⟨D.mkB,ints (D.clean.tail.take (D.uI x y)),zer x.toNat,zer y.toNat,false,Mrk.new⟩:=by
      unfold findL at h
      split at h
      ·exact(Option.some.inj h).symm
      ·simp[findL] at h
     subst this
     show(0:Int)≤_∧(0:Int)≤_
     omega
   exact(h1.mark _ _ (Nat.le_refl _) (fun t ht=>⟨(h1 _ t ht).1,by show(0:Int)≤_;omega⟩)).more _
  ·exact I.bd.mono (Nat.le_succ k)
 ·unfold Wd.born
  split
  ·rename_i hE
   have e1:(((D.jl x y).lT (D.mkR x y)).more (D.mkR x y)).ts.map Th.h=(D.jl x y).ts.map Th.h:=(more_hd _).trans (mark_hd _ _)
   have e2:(D.jl x y).ts.map Th.h=D.ts.map Th.h++[D.mkB]:=by unfold Wd.jl;rw[if_pos hE];show(D.ts++[_]).map Th.h=_;rw[List.map_append];rfl
   rw[e1,e2]
   refine⟨by rw[List.length_append];have:=I.hd.1;simp at *;omega,fun h hh=> ?_⟩
   rcases List.mem_append.1 hh with hh|hh
   ·exact I.hd.2 h hh
   ·rw[List.mem_singleton.1 hh];exact B.lt hE
  ·exact I.hd.mono (Nat.le_succ k)
end
def Wd.tallyB(D:Wd):Bool:=decide (D.phase=1)&&decide (D.cursor<(D.n:Int))
def Wd.jI(D:Wd):Option Th→Wd
 |none=>D.move (D.cursor+1) 0
 |some t=>if t.mr.count=D.parity then D.move (D.cursor+1) 0
  else if D.field<(t.pt.length:Int) then(D.bv (nth t.pt D.field.toNat)).move D.cursor (D.field+1)
  else(D.done (D.cursor+1)).move (D.cursor+1) 0
def Wd.tally(D:Wd):Wd:=if D.tallyB then D.jI (D.find (D.cursor+1)) else D
section
variable {w w':World} {lo:Nat} {lab:Nat→Nat} {a:WA} {D D':Wd} {i:Nat} {t t' u:Th} {x:TA}
theorem aj.move(h:aj w lo lab a D)(c f:Int):aj ((w.setCell ⟨a.q,4,none⟩ (.int .i64 c)).setCell ⟨a.q,5,none⟩ (.int .i64 f)) lo lab a (D.move c f):=by
 have k2:=h.bP (D':={D with cursor:=c}) (k:=4) (u:=.int .i64 c) rfl rfl rfl rfl rfl rfl rfl
 exact k2.bP (D':=D.move c f) (k:=5) (u:=.int .i64 f) rfl rfl rfl rfl rfl rfl rfl
theorem Touch.move{q:Nat}(h:Touch (fun b=>lo≤b) w w')(hq:lo≤q)(c f:Int):Touch (fun b=>lo≤b) w ((w'.setCell ⟨q,4,none⟩ (.int .i64 c)).setCell ⟨q,5,none⟩ (.int .i64 f)):=
 (h.setCell (p:=⟨q,4,none⟩) (fun _=>hq) _).setCell (p:=⟨q,5,none⟩) (fun _=>hq) _
theorem yw(h:aj w lo lab a D)(hp:D.phase≠1):Calls Tryz.prog 26 #[.pointer (some ⟨a.q,0,none⟩)] w (bD w lo a.q D (.bool false)):=by
 have c3:=h.c3
 have pb:(D.phase !=1)=true:=by rw[bne_iff_ne];exact hp
 have H:=hid h
 clear h hp
 go_enter Tryz.func26,Tryz.ntmps26
 go_wp2_with fail
 go_quiet (fail)
 go_wp2_with fail
 go_ret
 exact⟨rfl,(H.out.bE ⟨_,rfl⟩).iK rfl,Touch.of_below (bR.new ⟨_,rfl⟩)⟩
theorem EO(h:aj w lo lab a D)(hp:D.phase=1)(hk:(D.n:Int)≤D.cursor):Calls Tryz.prog 26 #[.pointer (some ⟨a.q,0,none⟩)] w (bD w lo a.q D (.bool false)):=by
 have c3:=h.c3
 rw[hp] at c3
 have c4:=h.c4
 have c0:=h.c0
 have c1:=h.h.c0
 have H:=hid h
 clear h hp
 go_enter Tryz.func26,Tryz.ntmps26
 go_wp2_with fail
 go_quiet (fail)
 go_wp2_with fail
 go_ret
 exact⟨rfl,(H.out.bE ⟨_,rfl⟩).iK rfl,Touch.of_below (bR.new ⟨_,rfl⟩)⟩
set_option maxHeartbeats 1000000 in
theorem Bt(h:aj w lo lab a D)(hp:D.phase=1)(hk0:0≤D.cursor)(hk:D.cursor<(D.n:Int))(hkb:D.cursor≤4294967295)(hf:D.find (D.cursor+1)=none):Calls Tryz.prog 26 #[.pointer (some ⟨a.q,0,none⟩)] w (bD w lo a.q (D.move (D.cursor+1) 0) (.bool true)):=by
 have c3:=h.c3
 rw[hp] at c3
 have c4:=h.c4
 have c0:=h.c0
 have c1:=h.h.c0
 have hw1:IntKind.i64.wrap (D.cursor+1)=D.cursor+1:=IntWalk.i64_in _ (by omega)
 have hkn:¬(D.n:Int)≤D.cursor:=by omega
 have HOf:=hid (fun w' (h':aj w' lo lab a D)=>dE h' hf)
 have H:=hid h
 clear h hp hk0 hk hkb hf
 go_enter Tryz.func26,Tryz.ntmps26
 go_wp2_with fail
 go_quiet (fail)
 go_wp2_with fail
 generalize hwd:World.drewN _ _=w1 at*
 have H1:Hid (aj w1 lo lab a D):=hid (by first|exact hwd▸H.out.bE ⟨_,rfl⟩|(rw[←hwd];exact H.out.bE ⟨_,rfl⟩))
 have T1:Hid (Touch (fun b=>lo≤b) w w1):=hid (by rw[←hwd];exact Touch.of_below (bR.new ⟨_,rfl⟩))
 clear hwd c0 c1 c3 c4
 refine(HOf.out _ H1.out).mono ?_
 rintro e w2 ⟨rfl,rfl⟩
 have c0:=H1.out.c0
 have c2:=H1.out.c2
 have c4:=H1.out.c4
 have c5:=H1.out.c5
 have f4:=H1.out.wb.free 4
 have f5:=H1.out.wb.free 5
 go_wp2_with fail
 go_quiet (fail)
 have HQ:=hid (fun m=>(H1.out.bE (w':=w1.drewN m) ⟨m,rfl⟩).move (D.cursor+1) 0)
 have HTQ:=hid (fun m=>Touch.move (T1.out.trans (Touch.of_below (bR.new (w:=w1) (w':=w1.drewN m) ⟨m,rfl⟩))) H1.out.lq.1 (D.cursor+1) 0)
 go_wp2_with fail
 go_ret
 exact⟨rfl,(HQ.out _).iK rfl,HTQ.out _⟩
set_option maxHeartbeats 1000000 in
theorem uu(h:aj w lo lab a D)(hp:D.phase=1)(hk0:0≤D.cursor)(hk:D.cursor<(D.n:Int))(hkb:D.cursor≤4294967295)(hf:D.find (D.cursor+1)=some t)(hc:t.mr.count=D.parity):Calls Tryz.prog 26 #[.pointer (some ⟨a.q,0,none⟩)] w (bD w lo a.q (D.move (D.cursor+1) 0) (.bool true)):=by
 have c3:=h.c3
 rw[hp] at c3
 have c4:=h.c4
 have c0:=h.c0
 have c1:=h.h.c0
 have hw1:IntKind.i64.wrap (D.cursor+1)=D.cursor+1:=IntWalk.i64_in _ (by omega)
 have hkn:¬(D.n:Int)≤D.cursor:=by omega
 obtain⟨i,x,hi,ht,hx⟩:=h.found hf
 have HOf:=hid (fun w' (h':aj w' lo lab a D)=>aC h' hi hx)
 have HFi:=hid (fun w' (h':aj w' lo lab a D)=>aI h' hi hx)
 have HT:=hid ht
 have HX:=hid hx
 have HCo:=hid hc
 have H:=hid h
 clear h hp hk0 hk hkb hf hc hi ht hx
 go_enter Tryz.func26,Tryz.ntmps26
 go_wp2_with fail
 go_quiet (fail)
 go_wp2_with fail
 generalize hwd:World.drewN _ _=w1 at*
 have H1:Hid (aj w1 lo lab a D):=hid (by first|exact hwd▸H.out.bE ⟨_,rfl⟩|(rw[←hwd];exact H.out.bE ⟨_,rfl⟩))
 have T1:Hid (Touch (fun b=>lo≤b) w w1):=hid (by rw[←hwd];exact Touch.of_below (bR.new ⟨_,rfl⟩))
 clear hwd c0 c1 c3 c4
 refine(HOf.out _ H1.out).mono ?_
 rintro e w2 ⟨rfl,rfl⟩
 have c0:=H1.out.c0
 have c2:=H1.out.c2
 have c4:=H1.out.c4
 have c5:=H1.out.c5
 have f4:=H1.out.wb.free 4
 have f5:=H1.out.wb.free 5
 have m2:=H1.out.m2 HT.out HX.out
 rw[HCo.out] at m2
 go_wp2_with fail
 go_quiet (fail)
 have HQ:=hid (fun m=>(H1.out.bE (w':=w1.drewN m) ⟨m,rfl⟩).move (D.cursor+1) 0)
 have HTQ:=hid (fun m=>Touch.move (T1.out.trans (Touch.of_below (bR.new (w:=w1) (w':=w1.drewN m) ⟨m,rfl⟩))) H1.out.lq.1 (D.cursor+1) 0)
 go_wp2_with fail
 go_ret
 exact⟨rfl,(HQ.out _).iK rfl,HTQ.out _⟩
set_option maxHeartbeats 1000000 in
theorem Bq(h:aj w lo lab a D)(hp:D.phase=1)(hk0:0≤D.cursor)(hk:D.cursor<(D.n:Int))(hkb:D.cursor≤4294967295)(hf:D.find (D.cursor+1)=some t)(hc:t.mr.count≠D.parity)(hff:¬D.field<(t.pt.length:Int)):Calls Tryz.prog 26 #[.pointer (some ⟨a.q,0,none⟩)] w (bD w lo a.q ((D.done (D.cursor+1)).move (D.cursor+1) 0) (.bool true)):=by
 have c3:=h.c3
 rw[hp] at c3
 have c4:=h.c4
 have c0:=h.c0
 have c1:=h.h.c0
 have hw1:IntKind.i64.wrap (D.cursor+1)=D.cursor+1:=IntWalk.i64_in _ (by omega)
 have hkn:¬(D.n:Int)≤D.cursor:=by omega
 obtain⟨i,x,hi,ht,hx⟩:=h.found hf
 have HOf:=hid (fun w' (h':aj w' lo lab a D)=>aC h' hi hx)
 have HFi:=hid (fun w' (h':aj w' lo lab a D)=>aI h' hi hx)
 have HT:=hid ht
 have HX:=hid hx
 have hcb:=aV hc
 have hfl:(t.pt.length:Int)≤D.field:=by omega
 have H:=hid h
 clear h hp hk0 hk hkb hf hc hi ht hx hff
 go_enter Tryz.func26,Tryz.ntmps26
 go_wp2_with fail
 go_quiet (fail)
 go_wp2_with fail
 generalize hwd:World.drewN _ _=w1 at*
 have H1:Hid (aj w1 lo lab a D):=hid (by first|exact hwd▸H.out.bE ⟨_,rfl⟩|(rw[←hwd];exact H.out.bE ⟨_,rfl⟩))
 have T1:Hid (Touch (fun b=>lo≤b) w w1):=hid (by rw[←hwd];exact Touch.of_below (bR.new ⟨_,rfl⟩))
 clear hwd c0 c1 c3 c4
 refine(HOf.out _ H1.out).mono ?_
 rintro e w2 ⟨rfl,rfl⟩
 have c0:=H1.out.c0
 have c2:=H1.out.c2
 have c4:=H1.out.c4
 have c5:=H1.out.c5
 have f4:=H1.out.wb.free 4
 have f5:=H1.out.wb.free 5
 have m2:=H1.out.m2 HT.out HX.out
 go_wp2_with fail
 go_quiet (fail)
 go_wp2_with fail
 generalize hwd:World.drewN _ _=w3 at*
 have H3:Hid (aj w3 lo lab a D):=hid (by first|exact hwd▸H1.out.bE ⟨_,rfl⟩|(rw[←hwd];exact H1.out.bE ⟨_,rfl⟩))
 have T3:Hid (Touch (fun b=>lo≤b) w w3):=hid (by rw[←hwd];exact T1.out.trans (Touch.of_below (bR.new ⟨_,rfl⟩)))
 clear hwd c0 c2 c4 c5 f4 f5 m2
 refine(HFi.out _ H3.out).mono ?_
 rintro e w4 ⟨rfl,rfl⟩
 have c4:=H3.out.c4
 have c5:=H3.out.c5
 have d2:=(H3.out.h.th i t x HT.out HX.out).c2
 go_wp2_with fail
 go_quiet (fail)
 go_wp2_with fail
 generalize hwd:World.drewN _ _=w5 at*
 have H5:Hid (aj w5 lo lab a D):=hid (by first|exact hwd▸H3.out.bE ⟨_,rfl⟩|(rw[←hwd];exact H3.out.bE ⟨_,rfl⟩))
 have T5:Hid (Touch (fun b=>lo≤b) w w5):=hid (by rw[←hwd];exact T3.out.trans (Touch.of_below (bR.new ⟨_,rfl⟩)))
 clear hwd c4 c5 d2
 refine(Sc H5.out (D.cursor+1)).mono ?_
 rintro e w6 ⟨rfl,⟨lab6,a6,ea6,k6⟩,k7⟩
 have H6:=hid k6
 have EA:=hid ea6
 have T6:=hid (T5.out.trans k7)
 rw[←EA.out]
 clear k6 k7 ea6
 have c4:w6.cell? ⟨a6.q,4,none⟩=some (.int .i64 D.cursor):=H6.out.c4
 have c5:w6.cell? ⟨a6.q,5,none⟩=some (.int .i64 D.field):=H6.out.c5
 have f4:=H6.out.wb.free 4
 have f5:=H6.out.wb.free 5
 have HQ:=hid (H6.out.move (D.cursor+1) 0)
 have HTQ:=hid (Touch.move T6.out H6.out.lq.1 (D.cursor+1) 0)
 go_wp2_with fail
 go_ret
 exact⟨rfl,HQ.out.iK EA.out,HTQ.out⟩
set_option maxHeartbeats 1000000 in
theorem Bp(h:aj w lo lab a D)(hp:D.phase=1)(hk0:0≤D.cursor)(hk:D.cursor<(D.n:Int))(hkb:D.cursor≤4294967295)(hf:D.find (D.cursor+1)=some t)(hc:t.mr.count≠D.parity){j:Nat}(hj:D.field=(j:Int))(hff:j<t.pt.length)(hjb:j≤1000000)(hsh:0≤D.shd (nth t.pt j)∧D.shd (nth t.pt j)≤4294967295):Calls Tryz.prog 26 #[.pointer (some ⟨a.q,0,none⟩)] w (bD w lo a.q ((D.bv (nth t.pt j)).move D.cursor ((j:Int)+1)) (.bool true)):=by
 have c3:=h.c3
 rw[hp] at c3
 have c4:=h.c4
 have c0:=h.c0
 have c1:=h.h.c0
 have hw1:IntKind.i64.wrap (D.cursor+1)=D.cursor+1:=IntWalk.i64_in _ (by omega)
 have hkn:¬(D.n:Int)≤D.cursor:=by omega
 obtain⟨i,x,hi,ht,hx⟩:=h.found hf
 have HOf:=hid (fun w' (h':aj w' lo lab a D)=>aC h' hi hx)
 have HFi:=hid (fun w' (h':aj w' lo lab a D)=>aI h' hi hx)
 have HT:=hid ht
 have HX:=hid hx
 have hcb:=aV hc
 have hfl:¬(t.pt.length:Int)≤D.field:=by omega
 have HJ:=hid (And.intro hj hff)
 have HSh:=hid hsh
 have hw2:IntKind.i64.wrap ((j:Int)+1)=(j:Int)+1:=IntWalk.i64_in _ (by omega)
 have H:=hid h
 clear h hp hk0 hk hkb hf hc hi ht hx hff hj hsh
 go_enter Tryz.func26,Tryz.ntmps26
 go_wp2_with fail
 go_quiet (fail)
 go_wp2_with fail
 generalize hwd:World.drewN _ _=w1 at*
 have H1:Hid (aj w1 lo lab a D):=hid (by first|exact hwd▸H.out.bE ⟨_,rfl⟩|(rw[←hwd];exact H.out.bE ⟨_,rfl⟩))
 have T1:Hid (Touch (fun b=>lo≤b) w w1):=hid (by rw[←hwd];exact Touch.of_below (bR.new ⟨_,rfl⟩))
 clear hwd c0 c1 c3 c4
 refine(HOf.out _ H1.out).mono ?_
 rintro e w2 ⟨rfl,rfl⟩
 have c0:=H1.out.c0
 have c2:=H1.out.c2
 have c4:=H1.out.c4
 have c5:=H1.out.c5
 have f4:=H1.out.wb.free 4
 have f5:=H1.out.wb.free 5
 have m2:=H1.out.m2 HT.out HX.out
 go_wp2_with fail
 go_quiet (fail)
 go_wp2_with fail
 generalize hwd:World.drewN _ _=w3 at*
 have H3:Hid (aj w3 lo lab a D):=hid (by first|exact hwd▸H1.out.bE ⟨_,rfl⟩|(rw[←hwd];exact H1.out.bE ⟨_,rfl⟩))
 have T3:Hid (Touch (fun b=>lo≤b) w w3):=hid (by rw[←hwd];exact T1.out.trans (Touch.of_below (bR.new ⟨_,rfl⟩)))
 clear hwd c0 c2 c4 c5 f4 f5 m2
 refine(HFi.out _ H3.out).mono ?_
 rintro e w4 ⟨rfl,rfl⟩
 have c4:=H3.out.c4
 have c5:=H3.out.c5
 have d2:=(H3.out.h.th i t x HT.out HX.out).c2
 go_wp2_with fail
 go_quiet (fail)
 go_wp2_with fail
 generalize hwd:World.drewN _ _=w5 at*
 have H5:Hid (aj w5 lo lab a D):=hid (by first|exact hwd▸H3.out.bE ⟨_,rfl⟩|(rw[←hwd];exact H3.out.bE ⟨_,rfl⟩))
 have T5:Hid (Touch (fun b=>lo≤b) w w5):=hid (by rw[←hwd];exact T3.out.trans (Touch.of_below (bR.new ⟨_,rfl⟩)))
 clear hwd c4 c5 d2
 obtain⟨g,hpa,hg,gc,gf,glo,_⟩:=H5.out.jA HT.out HX.out HJ.out.2
 have d2:=(H5.out.h.th i t x HT.out HX.out).c2
 rw[hpa] at d2
 have c5:=H5.out.c5
 rw[HJ.out.1] at c5
 have hj2:=HJ.out.2
 clear hpa
 have HWd:=hid H5.out.drew
 go_region_with (first|(go_at_call 66;refine(NJ HWd.out (nth t.pt j) (by have:=HSh.out;omega) (by have:=HSh.out;omega)).mono ?_;rintro e w6 ⟨rfl,⟨lab6,a6,ea6,k6⟩,k7⟩;have H6:=hid k6;have EA:=hid ea6;have T6:Hid (Touch (fun b=>lo≤b) w w6):=hid (T5.out.trans k7.kC);clear k6 k7 ea6))
 all_goals
  rw[←EA.out]
  have c5:w6.cell? ⟨a6.q,5,none⟩=some (.int .i64 (j:Int)):=by have:=H6.out.c5;rw[show((D.bv (nth t.pt j)).field)=(j:Int) from HJ.out.1] at this;exact this
  have f5:=H6.out.wb.free 5
  have HQ:Hid (aj (w6.setCell ⟨a6.q,5,none⟩ (.int .i64 ((j:Int)+1))) lo lab6 a6 ((D.bv (nth t.pt j)).move D.cursor ((j:Int)+1))):=hid (H6.out.bP (D':=(D.bv (nth t.pt j)).move D.cursor ((j:Int)+1)) (k:=5) (u:=.int .i64 ((j:Int)+1)) rfl rfl rfl rfl rfl rfl rfl)
  have HTQ:=hid (T6.out.setCell (p:=⟨a6.q,5,none⟩) (fun _=>H6.out.lq.1) (.int .i64 ((j:Int)+1)))
  go_wp2_with fail
  go_ret
  exact⟨rfl,HQ.out.iK EA.out,HTQ.out⟩
theorem Qi(hw:aj w lo lab a D)(B:WB D)(hk0:0≤D.cursor)(hf0:0≤D.field)(hkb:D.cursor≤4294967295)(hl:∀t,t∈D.live→t.pt.length≤1000000):
  Calls Tryz.prog 26 #[.pointer (some ⟨a.q,0,none⟩)] w (bD w lo a.q D.tally (.bool D.tallyB)):=by
 by_cases hp:D.phase=1
 ·by_cases hk:D.cursor<(D.n:Int)
  ·have e:D.tallyB=true:=by unfold Wd.tallyB;simp[hp,hk]
   unfold Wd.tally
   rw[e,if_pos rfl]
   cases hf:D.find (D.cursor+1) with
   |none=>exact Bt hw hp hk0 hk hkb hf
   |some t=>
    unfold Wd.jI
    by_cases hc:t.mr.count=D.parity
    ·simp only[hc,if_true];exact uu hw hp hk0 hk hkb hf hc
    ·by_cases hff:D.field<(t.pt.length:Int)
     ·obtain⟨j,hj⟩:=Int.eq_ofNat_of_zero_le hf0
      have hjl:j<t.pt.length:=by omega
      have:=hl t (find_live hf).1
      have:=Bp hw hp hk0 hk hkb hf hc hj hjl (by omega) (B.shd _)
      simp only[hc,if_false,hff,if_true]
      rw[hj]
      simpa using this
     ·simp only[hc,if_false,hff];exact Bq hw hp hk0 hk hkb hf hc hff
  ·have e:D.tallyB=false:=by unfold Wd.tallyB;simp[hk]
   unfold Wd.tally
   rw[e,if_neg (by decide)]
   exact EO hw hp (by omega)
 ·have e:D.tallyB=false:=by unfold Wd.tallyB;simp[hp]
  unfold Wd.tally
  rw[e,if_neg (by decide)]
  exact yw hw hp
end
section
variable {w w':World} {lo Bd:Nat} {lab:Nat→Nat} {a:WA} {D D':Wd} {i:Nat} {t t' u:Th} {x:TA}
theorem Touch.Mx{X:Nat→Prop}{q:Nat}(h:Touch X w w')(hq:X q)(c f:Int):Touch X w ((w'.setCell ⟨q,4,none⟩ (.int .i64 c)).setCell ⟨q,5,none⟩ (.int .i64 f)):=
 (h.setCell (p:=⟨q,4,none⟩) (fun _=>hq) _).setCell (p:=⟨q,5,none⟩) (fun _=>hq) _
theorem Kt(h:aj w lo lab a D)(r:Int)(hs0: -4611686018427387904≤D.shd r)(hs1:D.shd r≤4611686018427387904):
  Calls Tryz.prog 66 #[.pointer (some ⟨a.q,0,none⟩),.int .i64 r] w (fo Bd w lo a (D.bv r) (.bool (D.find r).isSome)):=by
 cases hf:D.find r with
 |none=>
  clear hs0 hs1
  have HC:=hid (dE h hf)
  have H:=hid h
  have E:Hid (D.bv r=D):=hid (bL _ hf)
  clear h hf
  go_enter Tryz.func66,Tryz.ntmps66
  go_wp2_with fail
  refine HC.out.mono ?_
  rintro e w1 ⟨rfl,rfl⟩
  go_wp2_with fail
  go_ret
  exact⟨rfl,by rw[E.out];exact⟨lab,a,rfl,H.out⟩,Touch.refl _ _⟩
 |some t=>
  obtain⟨i,x,hi,ht,hx⟩:=h.found hf
  have HC:=hid (aC h hi hx)
  have HS:=hid (xg h r)
  have hwr:IntKind.i64.wrap (D.shd r+1)=D.shd r+1:=IntWalk.i64_in _ (by omega)
  have H:=hid h
  have HI:=hid hi
  have HT:=hid ht
  have HX:=hid hx
  clear h hf hi ht hx hs0 hs1
  go_enter Tryz.func66,Tryz.ntmps66
  go_wp2_with fail
  refine HC.out.mono ?_
  rintro e w1 ⟨rfl,rfl⟩
  go_wp2_with fail
  refine HS.out.mono ?_
  rintro e w1 ⟨rfl,hd⟩
  have H1:=hid (H.out.bE hd)
  have T1:=hid (Touch.of_below (X:=XW lo Bd a) hd.new)
  clear hd
  have c2:=H1.out.c2
  obtain⟨n1,n2⟩:=H1.out.ne HT.out HX.out
  have m3:=H1.out.m3 HT.out HX.out
  have m4:=H1.out.m4 HT.out HX.out
  have fz3:=(H1.out.mb i t x HT.out HX.out).1.free 3
  have fz4:=(H1.out.mb i t x HT.out HX.out).1.free 4
  go_wp2_with fail
  go_ret
  have hm:=(H1.out.mb i t x HT.out HX.out).2.1
  refine⟨rfl,⟨lab,a,rfl,H1.out.DN (f:=fun m=>{m with shade:=D.parity,shadow:=D.shd r+1}) {t.mr with shade:=D.parity} HI.out HT.out HX.out rfl rfl⟩,T1.out.trans (((Touch.refl _ _).setCell (p:=⟨x.mb,3,none⟩) (fun _=>XW.mb HX.out) _).setCell (p:=⟨x.mb,4,none⟩) (fun _=>XW.mb HX.out) _)⟩
theorem Qf(h:aj w lo lab a D)(r:Int):
  Calls Tryz.prog 65 #[.pointer (some ⟨a.q,0,none⟩),.int .i64 r] w (fo Bd w lo a (D.done r) (.bool (D.find r).isSome)):=by
 cases hf:D.find r with
 |none=>
  have HC:=hid (dE h hf)
  have H:=hid h
  have E:Hid (D.done r=D):=hid (bL _ hf)
  clear h hf
  go_enter Tryz.func65,Tryz.ntmps65
  go_wp2_with fail
  refine HC.out.mono ?_
  rintro e w1 ⟨rfl,rfl⟩
  go_wp2_with fail
  go_ret
  exact⟨rfl,by rw[E.out];exact⟨lab,a,rfl,H.out⟩,Touch.refl _ _⟩
 |some t=>
  obtain⟨i,x,hi,ht,hx⟩:=h.found hf
  have HC:=hid (aC h hi hx)
  have c2:=h.c2
  have m0:=h.m2 ht hx
  have fz:=(h.mb i t x ht hx).1.free 2
  have H:Hid (bf (w.setCell ⟨x.mb,2,none⟩ (.int .i64 D.parity)) lo a.q (D.done r)):=hid ⟨lab,a,rfl,h.ji hi ht hx rfl⟩
  have T:=hid (oq (lo:=lo) (Bd:=Bd) (w:=w) hx 2 (.int .i64 D.parity))
  clear h hf hi ht hx
  go_enter Tryz.func65,Tryz.ntmps65
  go_wp2_with fail
  refine HC.out.mono ?_
  rintro e w1 ⟨rfl,rfl⟩
  go_wp2_with fail
  go_ret
  exact⟨rfl,H.out,T.out⟩
theorem xh(h:aj w lo lab a D)(hp:D.phase≠1):Calls Tryz.prog 26 #[.pointer (some ⟨a.q,0,none⟩)] w (fo Bd w lo a D (.bool false)):=by
 have c3:=h.c3
 have pb:(D.phase !=1)=true:=by rw[bne_iff_ne];exact hp
 have H:=hid h
 clear h hp
 go_enter Tryz.func26,Tryz.ntmps26
 go_wp2_with fail
 go_quiet (fail)
 go_wp2_with fail
 go_ret
 exact⟨rfl,(H.out.bE ⟨_,rfl⟩).iK rfl,Touch.of_below (bR.new ⟨_,rfl⟩)⟩
theorem Br(h:aj w lo lab a D)(hp:D.phase=1)(hk:(D.n:Int)≤D.cursor):Calls Tryz.prog 26 #[.pointer (some ⟨a.q,0,none⟩)] w (fo Bd w lo a D (.bool false)):=by
 have c3:=h.c3
 rw[hp] at c3
 have c4:=h.c4
 have c0:=h.c0
 have c1:=h.h.c0
 have H:=hid h
 clear h hp
 go_enter Tryz.func26,Tryz.ntmps26
 go_wp2_with fail
 go_quiet (fail)
 go_wp2_with fail
 go_ret
 exact⟨rfl,(H.out.bE ⟨_,rfl⟩).iK rfl,Touch.of_below (bR.new ⟨_,rfl⟩)⟩
set_option maxHeartbeats 1000000 in
theorem yu(h:aj w lo lab a D)(hp:D.phase=1)(hk0:0≤D.cursor)(hk:D.cursor<(D.n:Int))(hkb:D.cursor≤4294967295)(hf:D.find (D.cursor+1)=none):Calls Tryz.prog 26 #[.pointer (some ⟨a.q,0,none⟩)] w (fo Bd w lo a (D.move (D.cursor+1) 0) (.bool true)):=by
 have c3:=h.c3
 rw[hp] at c3
 have c4:=h.c4
 have c0:=h.c0
 have c1:=h.h.c0
 have hw1:IntKind.i64.wrap (D.cursor+1)=D.cursor+1:=IntWalk.i64_in _ (by omega)
 have hkn:¬(D.n:Int)≤D.cursor:=by omega
 have HOf:=hid (fun w' (h':aj w' lo lab a D)=>dE h' hf)
 have H:=hid h
 clear h hp hk0 hk hkb hf
 go_enter Tryz.func26,Tryz.ntmps26
 go_wp2_with fail
 go_quiet (fail)
 go_wp2_with fail
 generalize hwd:World.drewN _ _=w1 at*
 have H1:Hid (aj w1 lo lab a D):=hid (by first|exact hwd▸H.out.bE ⟨_,rfl⟩|(rw[←hwd];exact H.out.bE ⟨_,rfl⟩))
 have T1:Hid (Touch (XW lo Bd a) w w1):=hid (by rw[←hwd];exact Touch.of_below (bR.new ⟨_,rfl⟩))
 clear hwd c0 c1 c3 c4
 refine(HOf.out _ H1.out).mono ?_
 rintro e w2 ⟨rfl,rfl⟩
 have c0:=H1.out.c0
 have c2:=H1.out.c2
 have c4:=H1.out.c4
 have c5:=H1.out.c5
 have f4:=H1.out.wb.free 4
 have f5:=H1.out.wb.free 5
 go_wp2_with fail
 go_quiet (fail)
 have HQ:=hid (fun m=>(H1.out.bE (w':=w1.drewN m) ⟨m,rfl⟩).move (D.cursor+1) 0)
 have HTQ:=hid (fun m=>Touch.Mx (T1.out.trans (Touch.of_below (bR.new (w:=w1) (w':=w1.drewN m) ⟨m,rfl⟩))) (.inl rfl) (D.cursor+1) 0)
 go_wp2_with fail
 go_ret
 exact⟨rfl,(HQ.out _).iK rfl,HTQ.out _⟩
set_option maxHeartbeats 1000000 in
theorem sP(h:aj w lo lab a D)(hp:D.phase=1)(hk0:0≤D.cursor)(hk:D.cursor<(D.n:Int))(hkb:D.cursor≤4294967295)(hf:D.find (D.cursor+1)=some t)(hc:t.mr.count=D.parity):Calls Tryz.prog 26 #[.pointer (some ⟨a.q,0,none⟩)] w (fo Bd w lo a (D.move (D.cursor+1) 0) (.bool true)):=by
 have c3:=h.c3
 rw[hp] at c3
 have c4:=h.c4
 have c0:=h.c0
 have c1:=h.h.c0
 have hw1:IntKind.i64.wrap (D.cursor+1)=D.cursor+1:=IntWalk.i64_in _ (by omega)
 have hkn:¬(D.n:Int)≤D.cursor:=by omega
 obtain⟨i,x,hi,ht,hx⟩:=h.found hf
 have HOf:=hid (fun w' (h':aj w' lo lab a D)=>aC h' hi hx)
 have HFi:=hid (fun w' (h':aj w' lo lab a D)=>aI h' hi hx)
 have HT:=hid ht
 have HX:=hid hx
 have HCo:=hid hc
 have H:=hid h
 clear h hp hk0 hk hkb hf hc hi ht hx
 go_enter Tryz.func26,Tryz.ntmps26
 go_wp2_with fail
 go_quiet (fail)
 go_wp2_with fail
 generalize hwd:World.drewN _ _=w1 at*
 have H1:Hid (aj w1 lo lab a D):=hid (by first|exact hwd▸H.out.bE ⟨_,rfl⟩|(rw[←hwd];exact H.out.bE ⟨_,rfl⟩))
 have T1:Hid (Touch (XW lo Bd a) w w1):=hid (by rw[←hwd];exact Touch.of_below (bR.new ⟨_,rfl⟩))
 clear hwd c0 c1 c3 c4
 refine(HOf.out _ H1.out).mono ?_
 rintro e w2 ⟨rfl,rfl⟩
 have c0:=H1.out.c0
 have c2:=H1.out.c2
 have c4:=H1.out.c4
 have c5:=H1.out.c5
 have f4:=H1.out.wb.free 4
 have f5:=H1.out.wb.free 5
 have m2:=H1.out.m2 HT.out HX.out
 rw[HCo.out] at m2
 go_wp2_with fail
 go_quiet (fail)
 have HQ:=hid (fun m=>(H1.out.bE (w':=w1.drewN m) ⟨m,rfl⟩).move (D.cursor+1) 0)
 have HTQ:=hid (fun m=>Touch.Mx (T1.out.trans (Touch.of_below (bR.new (w:=w1) (w':=w1.drewN m) ⟨m,rfl⟩))) (.inl rfl) (D.cursor+1) 0)
 go_wp2_with fail
 go_ret
 exact⟨rfl,(HQ.out _).iK rfl,HTQ.out _⟩
set_option maxHeartbeats 1000000 in
theorem yt(h:aj w lo lab a D)(hp:D.phase=1)(hk0:0≤D.cursor)(hk:D.cursor<(D.n:Int))(hkb:D.cursor≤4294967295)(hf:D.find (D.cursor+1)=some t)(hc:t.mr.count≠D.parity)(hff:¬D.field<(t.pt.length:Int)):Calls Tryz.prog 26 #[.pointer (some ⟨a.q,0,none⟩)] w (fo Bd w lo a ((D.done (D.cursor+1)).move (D.cursor+1) 0) (.bool true)):=by
 have c3:=h.c3
 rw[hp] at c3
 have c4:=h.c4
 have c0:=h.c0
 have c1:=h.h.c0
 have hw1:IntKind.i64.wrap (D.cursor+1)=D.cursor+1:=IntWalk.i64_in _ (by omega)
 have hkn:¬(D.n:Int)≤D.cursor:=by omega
 obtain⟨i,x,hi,ht,hx⟩:=h.found hf
 have HOf:=hid (fun w' (h':aj w' lo lab a D)=>aC h' hi hx)
 have HFi:=hid (fun w' (h':aj w' lo lab a D)=>aI h' hi hx)
 have HT:=hid ht
 have HX:=hid hx
 have hcb:=aV hc
 have hfl:(t.pt.length:Int)≤D.field:=by omega
 have H:=hid h
 clear h hp hk0 hk hkb hf hc hi ht hx hff
 go_enter Tryz.func26,Tryz.ntmps26
 go_wp2_with fail
 go_quiet (fail)
 go_wp2_with fail
 generalize hwd:World.drewN _ _=w1 at*
 have H1:Hid (aj w1 lo lab a D):=hid (by first|exact hwd▸H.out.bE ⟨_,rfl⟩|(rw[←hwd];exact H.out.bE ⟨_,rfl⟩))
 have T1:Hid (Touch (XW lo Bd a) w w1):=hid (by rw[←hwd];exact Touch.of_below (bR.new ⟨_,rfl⟩))
 clear hwd c0 c1 c3 c4
 refine(HOf.out _ H1.out).mono ?_
 rintro e w2 ⟨rfl,rfl⟩
 have c0:=H1.out.c0
 have c2:=H1.out.c2
 have c4:=H1.out.c4
 have c5:=H1.out.c5
 have f4:=H1.out.wb.free 4
 have f5:=H1.out.wb.free 5
 have m2:=H1.out.m2 HT.out HX.out
 go_wp2_with fail
 go_quiet (fail)
 go_wp2_with fail
 generalize hwd:World.drewN _ _=w3 at*
 have H3:Hid (aj w3 lo lab a D):=hid (by first|exact hwd▸H1.out.bE ⟨_,rfl⟩|(rw[←hwd];exact H1.out.bE ⟨_,rfl⟩))
 have T3:Hid (Touch (XW lo Bd a) w w3):=hid (by rw[←hwd];exact T1.out.trans (Touch.of_below (bR.new ⟨_,rfl⟩)))
 clear hwd c0 c2 c4 c5 f4 f5 m2
 refine(HFi.out _ H3.out).mono ?_
 rintro e w4 ⟨rfl,rfl⟩
 have c4:=H3.out.c4
 have c5:=H3.out.c5
 have d2:=(H3.out.h.th i t x HT.out HX.out).c2
 go_wp2_with fail
 go_quiet (fail)
 go_wp2_with fail
 generalize hwd:World.drewN _ _=w5 at*
 have H5:Hid (aj w5 lo lab a D):=hid (by first|exact hwd▸H3.out.bE ⟨_,rfl⟩|(rw[←hwd];exact H3.out.bE ⟨_,rfl⟩))
 have T5:Hid (Touch (XW lo Bd a) w w5):=hid (by rw[←hwd];exact T3.out.trans (Touch.of_below (bR.new ⟨_,rfl⟩)))
 clear hwd c4 c5 d2
 refine(Qf (Bd:=Bd) H5.out (D.cursor+1)).mono ?_
 rintro e w6 ⟨rfl,⟨lab6,a6,ea6,k6⟩,k7⟩
 have H6:=hid k6
 have EA:=hid ea6
 have T6:=hid (T5.out.trans k7)
 rw[←EA.out]
 clear k6 k7 ea6
 have c4:w6.cell? ⟨a6.q,4,none⟩=some (.int .i64 D.cursor):=H6.out.c4
 have c5:w6.cell? ⟨a6.q,5,none⟩=some (.int .i64 D.field):=H6.out.c5
 have f4:=H6.out.wb.free 4
 have f5:=H6.out.wb.free 5
 have HQ:=hid (H6.out.move (D.cursor+1) 0)
 have HTQ:=hid (Touch.Mx T6.out (.inl EA.out) (D.cursor+1) 0)
 go_wp2_with fail
 go_ret
 exact⟨rfl,HQ.out.iK EA.out,HTQ.out⟩
set_option maxHeartbeats 1000000 in
theorem yo(h:aj w lo lab a D)(hp:D.phase=1)(hk0:0≤D.cursor)(hk:D.cursor<(D.n:Int))(hkb:D.cursor≤4294967295)(hf:D.find (D.cursor+1)=some t)(hc:t.mr.count≠D.parity){j:Nat}(hj:D.field=(j:Int))(hff:j<t.pt.length)(hjb:j≤1000000)(hsh:0≤D.shd (nth t.pt j)∧D.shd (nth t.pt j)≤4294967295):Calls Tryz.prog 26 #[.pointer (some ⟨a.q,0,none⟩)] w (fo Bd w lo a ((D.bv (nth t.pt j)).move D.cursor ((j:Int)+1)) (.bool true)):=by
 have c3:=h.c3
 rw[hp] at c3
 have c4:=h.c4
 have c0:=h.c0
 have c1:=h.h.c0
 have hw1:IntKind.i64.wrap (D.cursor+1)=D.cursor+1:=IntWalk.i64_in _ (by omega)
 have hkn:¬(D.n:Int)≤D.cursor:=by omega
 obtain⟨i,x,hi,ht,hx⟩:=h.found hf
 have HOf:=hid (fun w' (h':aj w' lo lab a D)=>aC h' hi hx)
 have HFi:=hid (fun w' (h':aj w' lo lab a D)=>aI h' hi hx)
 have HT:=hid ht
 have HX:=hid hx
 have hcb:=aV hc
 have hfl:¬(t.pt.length:Int)≤D.field:=by omega
 have HJ:=hid (And.intro hj hff)
 have HSh:=hid hsh
 have hw2:IntKind.i64.wrap ((j:Int)+1)=(j:Int)+1:=IntWalk.i64_in _ (by omega)
 have H:=hid h
 clear h hp hk0 hk hkb hf hc hi ht hx hff hj hsh
 go_enter Tryz.func26,Tryz.ntmps26
 go_wp2_with fail
 go_quiet (fail)
 go_wp2_with fail
 generalize hwd:World.drewN _ _=w1 at*
 have H1:Hid (aj w1 lo lab a D):=hid (by first|exact hwd▸H.out.bE ⟨_,rfl⟩|(rw[←hwd];exact H.out.bE ⟨_,rfl⟩))
 have T1:Hid (Touch (XW lo Bd a) w w1):=hid (by rw[←hwd];exact Touch.of_below (bR.new ⟨_,rfl⟩))
 clear hwd c0 c1 c3 c4
 refine(HOf.out _ H1.out).mono ?_
 rintro e w2 ⟨rfl,rfl⟩
 have c0:=H1.out.c0
 have c2:=H1.out.c2
 have c4:=H1.out.c4
 have c5:=H1.out.c5
 have f4:=H1.out.wb.free 4
 have f5:=H1.out.wb.free 5
 have m2:=H1.out.m2 HT.out HX.out
 go_wp2_with fail
 go_quiet (fail)
 go_wp2_with fail
 generalize hwd:World.drewN _ _=w3 at*
 have H3:Hid (aj w3 lo lab a D):=hid (by first|exact hwd▸H1.out.bE ⟨_,rfl⟩|(rw[←hwd];exact H1.out.bE ⟨_,rfl⟩))
 have T3:Hid (Touch (XW lo Bd a) w w3):=hid (by rw[←hwd];exact T1.out.trans (Touch.of_below (bR.new ⟨_,rfl⟩)))
 clear hwd c0 c2 c4 c5 f4 f5 m2
 refine(HFi.out _ H3.out).mono ?_
 rintro e w4 ⟨rfl,rfl⟩
 have c4:=H3.out.c4
 have c5:=H3.out.c5
 have d2:=(H3.out.h.th i t x HT.out HX.out).c2
 go_wp2_with fail
 go_quiet (fail)
 go_wp2_with fail
 generalize hwd:World.drewN _ _=w5 at*
 have H5:Hid (aj w5 lo lab a D):=hid (by first|exact hwd▸H3.out.bE ⟨_,rfl⟩|(rw[←hwd];exact H3.out.bE ⟨_,rfl⟩))
 have T5:Hid (Touch (XW lo Bd a) w w5):=hid (by rw[←hwd];exact T3.out.trans (Touch.of_below (bR.new ⟨_,rfl⟩)))
 clear hwd c4 c5 d2
 obtain⟨g,hpa,hg,gc,gf,glo,_⟩:=H5.out.jA HT.out HX.out HJ.out.2
 have d2:=(H5.out.h.th i t x HT.out HX.out).c2
 rw[hpa] at d2
 have c5:=H5.out.c5
 rw[HJ.out.1] at c5
 have hj2:=HJ.out.2
 clear hpa
 have HWd:=hid H5.out.drew
 go_region_with (first|(go_at_call 66;refine(Kt (Bd:=Bd) HWd.out (nth t.pt j) (by have:=HSh.out;omega) (by have:=HSh.out;omega)).mono ?_;rintro e w6 ⟨rfl,⟨lab6,a6,ea6,k6⟩,k7⟩;have H6:=hid k6;have EA:=hid ea6;have T6:Hid (Touch (XW lo Bd a) w w6):=hid (T5.out.trans k7.kC);clear k6 k7 ea6))
 all_goals
  rw[←EA.out]
  have c5:w6.cell? ⟨a6.q,5,none⟩=some (.int .i64 (j:Int)):=by have:=H6.out.c5;rw[show((D.bv (nth t.pt j)).field)=(j:Int) from HJ.out.1] at this;exact this
  have f5:=H6.out.wb.free 5
  have HQ:Hid (aj (w6.setCell ⟨a6.q,5,none⟩ (.int .i64 ((j:Int)+1))) lo lab6 a6 ((D.bv (nth t.pt j)).move D.cursor ((j:Int)+1))):=hid (H6.out.bP (D':=(D.bv (nth t.pt j)).move D.cursor ((j:Int)+1)) (k:=5) (u:=.int .i64 ((j:Int)+1)) rfl rfl rfl rfl rfl rfl rfl)
  have HTQ:=hid (T6.out.setCell (p:=⟨a6.q,5,none⟩) (fun _=>.inl EA.out) (.int .i64 ((j:Int)+1)))
  go_wp2_with fail
  go_ret
  exact⟨rfl,HQ.out.iK EA.out,HTQ.out⟩
theorem NV(hw:aj w lo lab a D)(B:WB D)(hk0:0≤D.cursor)(hf0:0≤D.field)(hkb:D.cursor≤4294967295)(hl:∀t,t∈D.live→t.pt.length≤1000000):
  Calls Tryz.prog 26 #[.pointer (some ⟨a.q,0,none⟩)] w (fo Bd w lo a D.tally (.bool D.tallyB)):=by
 by_cases hp:D.phase=1
 ·by_cases hk:D.cursor<(D.n:Int)
  ·have e:D.tallyB=true:=by unfold Wd.tallyB;simp[hp,hk]
   unfold Wd.tally
   rw[e,if_pos rfl]
   cases hf:D.find (D.cursor+1) with
   |none=>exact yu (Bd:=Bd) hw hp hk0 hk hkb hf
   |some t=>
    unfold Wd.jI
    by_cases hc:t.mr.count=D.parity
    ·simp only[hc,if_true];exact sP (Bd:=Bd) hw hp hk0 hk hkb hf hc
    ·by_cases hff:D.field<(t.pt.length:Int)
     ·obtain⟨j,hj⟩:=Int.eq_ofNat_of_zero_le hf0
      have hjl:j<t.pt.length:=by omega
      have:=hl t (find_live hf).1
      have:=yo (Bd:=Bd) hw hp hk0 hk hkb hf hc hj hjl (by omega) (B.shd _)
      simp only[hc,if_false,hff,if_true]
      rw[hj]
      simpa using this
     ·simp only[hc,if_false,hff];exact yt (Bd:=Bd) hw hp hk0 hk hkb hf hc hff
  ·have e:D.tallyB=false:=by unfold Wd.tallyB;simp[hk]
   unfold Wd.tally
   rw[e,if_neg (by decide)]
   exact Br (Bd:=Bd) hw hp (by omega)
 ·have e:D.tallyB=false:=by unfold Wd.tallyB;simp[hp]
  unfold Wd.tally
  rw[e,if_neg (by decide)]
  exact xh (Bd:=Bd) hw hp
theorem aj.Rf(h:aj w lo lab a D){b:Nat}{cs:Array Value}(hb:Blk w b cs 34):¬XW lo 0 a b:=by
 rintro(e|⟨x,hx,e|⟨_,e,_⟩⟩)
 ·subst e
  have h1:=h.wb
  unfold Blk at hb h1
  rw[hb] at h1
  injection h1 with h1
  injection h1 with _ h1 _
  revert h1
  decide
 ·subst e
  obtain⟨i,hi,e⟩:=List.getElem_of_mem hx
  have hl:i<D.ts.length:=by rw[←h.h.len];exact hi
  have h1:=(h.mb i D.ts[i] x (by simp[hl]) (by simp[hi,e])).1
  unfold Blk at hb h1
  rw[hb] at h1
  injection h1 with h1
  injection h1 with _ h1 _
  revert h1
  decide
 ·omega
end
section
variable {c:Cf} {zs:List Int} {D:Wd} {t:Th} {r:Int} {k:Nat}
theorem Ig(S:San D)(hz:Wz c zs)(R:au c zs D)(hf:D.find r=some t){i:Nat}(hi:i<t.pt.length):
  In64 (nth t.pt i)∧∃e:Int,iO c 55 [.int .i64 r,.int .i64 (i:Int)] zs 12 zs (.tuple #[.int .i64 (nth t.pt i),.int .i64 e]):=by
 have hr:=ig hz.may R hf
 obtain⟨htl,_⟩:=find_live hf
 have hk:=S.ok t htl
 cases ha:aO c t.ob i with
 |some a=>
  obtain⟨h1,b0,b1⟩:=uL hz R hr hf hi ha
  exact⟨by constructor<;>omega,0,h1⟩
 |none=>
  have h0:nth t.pt i=0:=by
   cases hd:t.mr.dead with
   |true=>
    have d:=hk.dead hd
    by_cases hl:(i:Int)<t.mr.left
    ·obtain⟨_,a,h⟩:=d.field hz.may R.w.symm hk.rU hl
     rw[ha] at h
     cases h
    ·exact d.zero i (by omega)
   |false=>
    obtain⟨a,h⟩:=(hk.alive hd).field hz.may R.w.symm hk.rU hi
    rw[ha] at h
    cases h
  have hob:=fe R r
  rw[hf] at hob
  have e1:oZ c zs D.bH r (i:Int)=nth t.pt i:=by
   unfold oZ
   rw[hob]
   show(if bel (i:Int) t.ob.np then fH c zs t.ob (i:Int).toNat else 0)=_
   rw[if_pos (iP (show i<t.ob.np from hi)),Int.toNat_natCast]
   unfold fH
   rw[ha,h0]
  have h:=jr.ptr c zs D.clean D.bH r (i:Int) hz R.heap hr
  rw[e1] at h
  exact⟨by rw[h0];constructor<;>omega,_,h⟩
theorem Ad(S:San D)(hf:D.find r=some t){f:Int}(hn:¬f<(t.pt.length:Int)):Does c D 42 [.int .i64 r,.int .i64 f] 12 D (.bool false):=fun zs hz R=>by
 have hob:=fe R r
 rw[hf] at hob
 obtain⟨d1,hd1,C1⟩:=jr.iA c zs D.clean D.bH r t.ob hz R.heap hob
 exact⟨zs,⟨d1,hd1,Bb (n:=(t.ob.np:Int)) hn C1⟩,R⟩
theorem Jv(S:San D)(hf:D.find r=some t){j:Nat}(hj:j<t.pt.length)(hb:D.shd (nth t.pt j)<4294967295):Does c D 42 [.int .i64 r,.int .i64 (j:Int)] 33 (D.bv (nth t.pt j)) (.bool true):=fun zs hz R=>by
 have hob:=fe R r
 rw[hf] at hob
 obtain⟨d1,hd1,C1⟩:=jr.iA c zs D.clean D.bH r t.ob hz R.heap hob
 obtain⟨h64,e,d2,hd2,C2⟩:=Ig S hz R hf hj
 obtain⟨zs3,⟨d3,hd3,C3⟩,R3,hz3⟩:=(tintFns.bv c D (nth t.pt j) h64 hb).at hz R
 have hn:(j:Int)<(t.ob.np:Int):=by show(j:Int)<(t.pt.length:Int);omega
 exact⟨zs3,⟨d1+d2+d3,by omega,Ko hn C1 C2 C3⟩,R3⟩
theorem JH{x y:Int}(h0:0≤x)(h1:x≤4294967295)(h2:0≤y)(h3:y≤4294967295):D.yY x y=D.move x y:=by
 unfold Wd.yY ME
 rw[if_pos (by simp[h0,h1,h2,h3])]
theorem Pj{x y:Int}(h0:0≤x)(h1:x≤4294967295)(h2:0≤y)(h3:y≤4294967295):ME x y=true:=by
 unfold ME
 simp[h0,h1,h2,h3]
theorem qA{x y:Int}(h0:0≤x)(h1:x≤4294967295)(h2:0≤y)(h3:y≤4294967295):Does c D 43 [.int .i64 x,.int .i64 y] 2 (D.move x y) (.bool true):=by
 have h:=tintFns.move c D x y
 rw[JH h0 h1 h2 h3,Pj h0 h1 h2 h3] at h
 exact h
theorem au.Fg(R:au c zs D)(hz:Wz c zs):(0≤D.cursor∧D.cursor≤4294967295)∧0≤D.field∧D.field≤4294967295:=by
 have h1:=R.reg 12 (by omega) (by omega)
 have h2:=R.reg 13 (by omega) (by omega)
 have e1:D.reg 12=D.cursor:=rfl
 have e2:D.reg 13=D.field:=rfl
 rw[e1] at h1
 rw[e2] at h2
 have b1:=hz.wf 12
 have b2:=hz.wf 13
 rw[←h1,←h2]
 exact⟨b1,b2⟩
theorem ld_tally(S:San D)(hb:∀q,D.shd q<4294967295):Does c D 11 [] 96 D.tally (.bool D.tallyB):=fun zs hz R=>by
 have hm:=hz.may
 have hmn:=hm.n
 have hN:=R.n
 obtain⟨⟨k0,k1⟩,f0,f1⟩:=R.Fg hz
 obtain⟨zs1,⟨d1,hd1,C1⟩,R1,hz1⟩:=(tintFns.at_ c D).at hz R
 obtain⟨zs2,⟨d2,hd2,C2⟩,R2,hz2⟩:=(tintFns.phase c D).at hz1 R1
 by_cases hp:D.phase=1
 ·rw[hp] at C2
  by_cases hk:D.cursor<(D.n:Int)
  ·have e:D.tallyB=true:=by unfold Wd.tallyB;simp[hp,hk]
   have hk':D.cursor<(c.N:Int):=by rw[←hN];exact hk
   have hr:In64 (D.cursor+1):=by constructor<;>omega
   unfold Wd.tally
   rw[e,if_pos rfl]
   obtain⟨zs3,⟨d3,hd3,C3⟩,R3,hz3⟩:=(gd_is (c:=c) (D:=D) hr).at hz2 R2
   cases hf:D.find (D.cursor+1) with
   |none=>
    rw[hf] at C3
    obtain⟨zs4,⟨d4,hd4,C4⟩,R4,hz4⟩:=(qA (c:=c) (D:=D) (x:=D.cursor+1) (y:=0) (by omega) (by omega) (by omega) (by omega)).at hz3 R3
    exact⟨zs4,⟨d1+d2+d3+d4,by omega,Ba k0 hk' hm C1 C2 C3 C4⟩,R4⟩
   |some t=>
    rw[hf] at C3
    obtain⟨zs4,⟨d4,hd4,C4⟩,R4,hz4⟩:=(tintFns.counted c D (D.cursor+1) D.field hr).at hz3 R3
    have hc:D.counted (D.cursor+1) D.field=decide (t.mr.count=D.parity):=by
     unfold Wd.counted
     rw[hf]
     simp[f0]
    rw[hc] at C4
    unfold Wd.jI
    by_cases hct:t.mr.count=D.parity
    ·rw[show decide (t.mr.count=D.parity)=true from decide_eq_true hct] at C4
     obtain⟨zs5,⟨d5,hd5,C5⟩,R5,hz5⟩:=(qA (c:=c) (D:=D) (x:=D.cursor+1) (y:=0) (by omega) (by omega) (by omega) (by omega)).at hz4 R4
     simp only[hct,if_true]
     exact⟨zs5,⟨d1+d2+d3+d4+d5,by omega,ut k0 hk' hm C1 C2 C3 C4 C5⟩,R5⟩
    ·rw[show decide (t.mr.count=D.parity)=false from decide_eq_false hct] at C4
     simp only[hct,if_false]
     by_cases hff:D.field<(t.pt.length:Int)
     ·obtain⟨j,hj⟩:=Int.eq_ofNat_of_zero_le f0
      have hjl:j<t.pt.length:=by omega
      have hsz:=(R4.II hm S (find_live hf).1).small
      obtain⟨zs5,⟨d5,hd5,C5⟩,R5,hz5⟩:=(Jv (c:=c) S hf hjl (hb _)).at hz4 R4
      obtain⟨zs6,⟨d6,hd6,C6⟩,R6,hz6⟩:=(qA (c:=c) (D:=D.bv (nth t.pt j)) (x:=D.cursor) (y:=(j:Int)+1) (by omega) (by omega) (by omega) (by omega)).at hz5 R5
      simp only[hff,if_true]
      rw[hj] at C1 C4 ⊢
      rw[Int.toNat_natCast]
      exact⟨zs6,⟨d1+d2+d3+d4+d5+d6,by omega,AY (f:=(j:Int)) (by omega) (by omega) k0 hk' hm C1 C2 C3 C4 C5 C6⟩,R6⟩
     ·obtain⟨zs5,⟨d5,hd5,C5⟩,R5,hz5⟩:=(Ad (c:=c) S hf hff).at hz4 R4
      obtain⟨zs6,⟨d6,hd6,C6⟩,R6,hz6⟩:=(tintFns.done c D (D.cursor+1) hr).at hz5 R5
      obtain⟨zs7,⟨d7,hd7,C7⟩,R7,hz7⟩:=(qA (c:=c) (D:=D.done (D.cursor+1)) (x:=D.cursor+1) (y:=0) (by omega) (by omega) (by omega) (by omega)).at hz6 R6
      simp only[hff,if_false]
      exact⟨zs7,⟨d1+d2+d3+d4+d5+d6+d7,by omega,AZ k0 hk' hm C1 C2 C3 C4 C5 C6 C7⟩,R7⟩
  ·have e:D.tallyB=false:=by unfold Wd.tallyB;simp[hk]
   unfold Wd.tally
   rw[e,if_neg (by decide)]
   exact⟨zs2,⟨d1+d2,by omega,EC (by rw[←hN];omega) C1 C2⟩,R2⟩
 ·have e:D.tallyB=false:=by unfold Wd.tallyB;simp[hp]
  unfold Wd.tally
  rw[e,if_neg (by decide)]
  exact⟨zs2,⟨d1+d2,by omega,ym hp C1 C2⟩,R2⟩
theorem San.move(S:San D)(x y:Int):San (D.move x y):=S.same_but rfl rfl rfl rfl (fun b hb=>.inl hb)
theorem San.bv(S:San D)(x:Int):San (D.bv x):=S.mark x (fun _=>rfl) (fun _=>rfl) (fun _=>rfl)
theorem San.done(S:San D)(x:Int):San (D.done x):=S.mark x (fun _=>rfl) (fun _=>rfl) (fun _=>rfl)
theorem San.tally(S:San D):San D.tally:=by
 unfold Wd.tally
 split
 ·unfold Wd.jI
  split
  ·exact S.move _ _
  ·split
   ·exact S.move _ _
   ·split
    ·exact(S.bv _).move _ _
    ·exact(S.done _).move _ _
 ·exact S
theorem BDf.shd(h:BDf k D)(q:Int):D.shd q≤(k:Int):=by
 unfold Wd.shd
 split
 ·omega
 ·rename_i t hf
  have:=h q t hf
  split<;>omega
theorem BDf.bv(h:BDf k D)(x:Int):BDf (k+1) (D.bv x):=by
 have hs:=h.shd x
 exact h.mark x _ (Nat.le_succ k) (fun t ht=>by have:=h x t ht;show t.mr.refs≤_∧D.shd x+1≤_;omega)
theorem BDf.done(h:BDf k D)(x:Int):BDf k (D.done x):=h.keep x _ (fun _=>Int.le_refl _) (fun _=>Int.le_refl _)
theorem BDf.move(h:BDf k D)(x y:Int):BDf k (D.move x y):=h.ts rfl
theorem BDf.tally(h:BDf k D):BDf (k+1) D.tally:=by
 have h':=h.mono (Nat.le_succ k)
 unfold Wd.tally
 split
 ·unfold Wd.jI
  split
  ·exact h'.move _ _
  ·split
   ·exact h'.move _ _
   ·split
    ·exact(h.bv _).move _ _
    ·exact(h'.done _).move _ _
 ·exact h'
theorem Nu:D.tally.ts.map Th.h=D.ts.map Th.h:=by
 unfold Wd.tally
 split
 ·unfold Wd.jI
  split
  ·rfl
  ·split
   ·rfl
   ·split
    ·show(D.bv _).ts.map Th.h=_
     unfold Wd.bv
     exact mark_hd _ _
    ·show(D.done _).ts.map Th.h=_
     unfold Wd.done
     exact mark_hd _ _
 ·rfl
theorem PInv.tally(I:PInv c k D):PInv c (k+1) D.tally:=I.to I.san.tally I.bd.tally Nu
end
section
variable {w wr w':World} {p:Pl} {q lo m k n:Nat} {c:Cf} {D D2 D':Wd} {t u:Th} {r i x y sp sd:Int}
theorem ld_begin(ph:Int)(h0:0≤ph)(h3:ph≤3):Does c D 9 [.int .i64 ph] 5 (D.begin ph) (.bool true):=by
 have h:=tintFns.begin_ c D ph
 have e:Px ph=true:=decide_eq_true ⟨h0,h3⟩
 unfold Wd.nG at h
 rw[e,if_pos rfl] at h
 exact h
theorem PInv.begin_(I:PInv c k D)(ph:Int):PInv c (k+1) (D.begin ph):=I.to (I.san.same_but rfl rfl rfl rfl (fun b hb=>.inl hb)) ((I.bd.mono (Nat.le_succ k)).ts rfl) rfl
theorem tally_idle(h:D.tallyB=false):D.tally=D:=by unfold Wd.tally;rw[h];rfl
end
section
variable {D:Wd} {x:Int}
end
theorem Bc{P:Th→Prop}{g:Th→Th}(hg:∀t,P t→P (g t))(r:Int):∀{l:List Th},(∀t,t∈l→P t)→∀t,t∈updL r g l→P t
 |[],_,t,ht=>by simp[updL] at ht
 |u::l,h,t,ht=>by
  unfold updL at ht
  split at ht
  ·rcases List.mem_cons.1 ht with rfl|ht
   ·exact hg u (h u (by simp))
   ·exact h t (List.mem_cons_of_mem _ ht)
  ·rcases List.mem_cons.1 ht with rfl|ht
   ·exact h _ (List.mem_cons_self ..)
   ·exact Bc hg r (fun t ht=>h t (List.mem_cons_of_mem _ ht)) t ht
def Dyed(D:Wd):Prop:=D.parity=0∧∀t,t∈D.ts→t.mr.count=0∧t.mr.shade=0
section
variable {D D':Wd} {x y r:Int}
theorem Dyed.mark(h:Dyed D)(r:Int){f:Mrk→Mrk}(hf:∀m,m.count=0∧m.shade=0→(f m).count=0∧(f m).shade=0):Dyed (D.mark r f):=
 ⟨h.1,Bc (P:=fun t=>t.mr.count=0∧t.mr.shade=0) (fun t ht=>hf t.mr ht) r h.2⟩
theorem Dyed.lT(h:Dyed D)(r:Int):Dyed (D.lT r):=h.mark r (fun m _=>⟨h.1,h.1⟩)
theorem tu{q:Int}{t:Th}:∀{l:List Th},findL q l=some t→t∈l
 |u::l,h=>by
  unfold findL at h
  split at h
  ·cases h
   simp
  ·exact List.mem_cons_of_mem _ (tu h)
theorem Dyed.shd(h:Dyed D)(hp:D'.parity=1)(ht:D'.ts=D.ts)(q:Int):D'.shd q=0:=by
 unfold Wd.shd
 cases hf:D'.find q with
 |none=>rfl
 |some t=>
  have hm:t∈D.ts:=by rw[←ht];exact tu hf
  simp only
  rw[if_neg (by rw[(h.2 t hm).2,hp];decide)]
end
def Sq(h f:Nat)(u:Th):Nat:=if u.h<h then u.pt.length else if u.h=h then f else 0
def TH(q:Int)(h f:Nat)(u:Th):Nat:=cntL q (u.pt.take (Sq h f u))
theorem wJ{φ ψ:Th→Nat}{t:Th}{d:Nat}:∀{l:List Th},((aU l).map Th.h).Nodup→t∈aU l→ψ t=φ t+d→(∀u,u∈aU l→u.h≠t.h→ψ u=φ u)→sumL ψ l=sumL φ l+d
 |[],_,h,_,_=>by simp[aU] at h
 |u::l,hn,h,hd,ho=>by
  rw[bu,bu]
  rw[aA] at hn h ho
  cases hu:u.ended with
  |true=>
   rw[hu] at hn h ho
   simp at hn h ho ⊢
   exact wJ (φ:=φ) (ψ:=ψ) hn h hd ho
  |false=>
   rw[hu] at hn h ho
   simp at hn h ho ⊢
   rcases h with rfl|h
   ·have:sumL ψ l=sumL φ l:=mK (fun v hv=>ho.2 v hv (fun e=>hn.1 v hv e))
    omega
   ·have h1:=wJ (φ:=φ) (ψ:=ψ) hn.2 h hd ho.2
    have h2:=ho.1 (fun e=>hn.1 t h e.symm)
    omega
section
variable {D D':Wd} {t u:Th} {N s h f:Nat} {q x r:Int}
theorem Cc(S:San D)(hs:u∈(D.done x).live):∃v,v∈D.live∧u.h=v.h∧((v.h:Int)+1=x∧u.mr.count=D.parity∨(v.h:Int)+1≠x∧u.mr.count=v.mr.count):=by
 unfold Wd.done at hs
 obtain⟨v,hv,e1,_,h2⟩:=CV S hs
 exact⟨v,hv,e1,by
  rcases h2 with⟨h,h2⟩|⟨h,h2⟩
  ·exact .inl ⟨h,by rw[h2]⟩
  ·exact .inr ⟨h,by rw[h2]⟩⟩
structure CI (N s h f:Nat) (D:Wd):Prop where
 san:San D
 cu:D.cursor=(h:Int)
 fi:D.field=(f:Int)
 ph:D.phase=1
 n:D.n=N
 hN:h≤N
 ct:∀t,t∈D.live→(t.mr.count=D.parity↔t.h<h)
 fz:f=0∨∃t,t∈D.live∧t.h=h∧f≤t.pt.length
 sh:∀q t,D.find q=some t→D.shd q=((sumL (TH q h f) D.ts:Nat):Int)
 st:s=h+sumL (Sq h f) D.ts
 hlt:∀t,t∈D.live→t.h<N
 bd:N+sumL (fun t=>t.pt.length) D.ts≤16*N
theorem San.theOne(S:San D)(ht:t∈D.live)(hu:u∈D.live)(e:u.h=t.h):u=t:=by
 have h1:=S.findIt ht
 have h2:=S.findIt hu
 rw[e,h1] at h2
 exact(Option.some.inj h2).symm
theorem CI.done(I:CI N s h f D)(hk:h<N)(hf:D.find ((h:Int)+1)=some t)(hff:¬f<t.pt.length):CI N (s+1) (h+1) 0 ((D.done ((h:Int)+1)).move ((h:Int)+1) 0):=by
 obtain⟨htl,e⟩:=find_live hf
 have e:t.h=h:=by omega
 have ef:f=t.pt.length:=by
  rcases I.fz with h0|⟨u,hu,e2,h2⟩
  ·omega
  ·rw[I.san.theOne htl hu (by omega)] at h2
   omega
 have hch:∀u,u∈aU D.ts→Sq (h+1) 0 u=Sq h f u:=fun u hu=>by
  unfold Sq
  by_cases h1:u.h<h
  ·rw[if_pos h1,if_pos (by omega)]
  ·rw[if_neg h1]
   by_cases h2:u.h=h
   ·rw[if_pos h2,if_pos (by omega),I.san.theOne htl hu (by omega),ef]
   ·rw[if_neg h2,if_neg (by omega)]
    split<;>rfl
 have hm:∀φ:Th→Nat,(∀(t:Th) (m:Mrk),φ {t with mr:=m}=φ t)→sumL φ (D.done ((h:Int)+1)).ts=sumL φ D.ts:=fun φ hφ=>lH _ (fun t=>hφ t _)
 refine⟨(I.san.done _).move _ _,by show(h:Int)+1=_;omega,rfl,I.ph,I.n,hk,fun s hs=> ?_,.inl rfl,fun q v hq=> ?_,?_,fun s hs=> ?_,?_⟩
 ·obtain⟨v,hv,e1,h2⟩:=Cc I.san (show s∈(D.done ((h:Int)+1)).live from hs)
  have h3:=I.ct v hv
  show s.mr.count=D.parity↔_
  rcases h2 with⟨k,h2⟩|⟨k,h2⟩
  ·rw[h2]
   exact⟨fun _=>by omega,fun _=>rfl⟩
  ·rw[h2,h3]
   omega
 ·show(D.done ((h:Int)+1)).shd q=((sumL (TH q (h+1) 0) (D.done ((h:Int)+1)).ts:Nat):Int)
  have hq:(D.done ((h:Int)+1)).find q=some v:=hq
  rw[hm _ (fun _ _=>rfl),mK (φ:=TH q (h+1) 0) (ψ:=TH q h f) (fun u hu=>by unfold TH;rw[hch u hu])]
  have hq2:(D.done ((h:Int)+1)).find q=(D.find q).map (fun u=>if u.at ((h:Int)+1) then {u with mr:={u.mr with count:=D.parity}} else u):=find_mark (D:=D) (r:=(h:Int)+1) (fun m=>{m with count:=D.parity}) q
  cases hv:D.find q with
  |none=>
   rw[hv] at hq2
   rw[hq2] at hq
   cases hq
  |some u=>
   rw[hv] at hq2
   simp only[Option.map_some] at hq2
   have:(D.done ((h:Int)+1)).shd q=D.shd q:=by
    show(match(D.done ((h:Int)+1)).find q with|none=>0|some t=>if t.mr.shade=D.parity then t.mr.shadow else 0)=(match D.find q with|none=>0|some t=>if t.mr.shade=D.parity then t.mr.shadow else 0)
    rw[hq2,hv]
    cases u.at ((h:Int)+1)<;>rfl
   rw[this]
   exact I.sh q u hv
 ·show s+1=h+1+sumL (Sq (h+1) 0) (D.done ((h:Int)+1)).ts
  rw[hm _ (fun _ _=>rfl),mK hch]
  have:=I.st
  omega
 ·obtain⟨v,hv,e1,_⟩:=Cc I.san (show s∈(D.done ((h:Int)+1)).live from hs)
  rw[e1]
  exact I.hlt v hv
 ·show N+sumL _ (D.done ((h:Int)+1)).ts≤_
  rw[hm _ (fun _ _=>rfl)]
  exact I.bd
end
def Ub(P C F:Int)(u:Th):Nat:=if u.mr.count=P then u.pt.length else if(u.h:Int)=C then F.toNat else 0
def Py(P C F q:Int)(u:Th):Nat:=cntL q (u.pt.take (Ub P C F u))
def Wd.ph(D:Wd)(q:Int):Th→Nat:=Py D.parity D.cursor D.field q
def sv(P:Int)(m:Mrk):Int:=if m.shade=P then m.shadow else 0
structure xu (E:Int→Prop) (D:Wd):Prop where
 sh:∀s,s∈D.live→¬E ((s.h:Int)+1)→s.mr.dead=false→s.mr.color≠D.parity→sv D.parity s.mr=((sumL (D.ph ((s.h:Int)+1)) D.ts:Nat):Int)
 ct:∀s,s∈D.live→(s.h:Int)<D.cursor→s.mr.count=D.parity
def Sam(D D':Wd):Prop:=D'.parity=D.parity∧D'.cursor=D.cursor∧D'.field=D.field∧D'.phase=D.phase
section
variable {D D':Wd} {E E':Int→Prop} {t s u:Th} {r x y q:Int} {g:Th→Th} {P C F:Int}
theorem Rj{m:Mrk}(h:m.count=t.mr.count):Py P C F q {t with mr:=m}=Py P C F q t:=by
 unfold Py Ub
 rw[show({t with mr:=m}:Th).mr.count=t.mr.count from h]
theorem MO(h:Sam D D'):D'.ph q=D.ph q:=by unfold Wd.ph;rw[h.1,h.2.1,h.2.2.1]
theorem xu.same(H:xu E D)(h:D'.ts=D.ts)(k:Sam D D'):xu E D':=by
 have hl:D'.live=D.live:=by unfold Wd.live;rw[h]
 refine⟨fun s hs he hd hc=> ?_,fun s hs hc=> ?_⟩
 ·rw[hl] at hs
  rw[k.1] at hc ⊢
  rw[MO k,h]
  exact H.sh s hs he hd hc
 ·rw[hl] at hs
  rw[k.2.1] at hc
  rw[k.1]
  exact H.ct s hs hc
theorem xu.upd(H:xu E D)(S:San D)(hf:D.find r=some t)(hts:D'.ts=updL r g D.ts)(k:Sam D D')(he:(g t).ended=false)(hh:(g t).h=t.h)
  (hp:∀q,q≠0→¬E' q→D.ph q (g t)=D.ph q t) (hc:t.mr.count=D.parity→(g t).mr.count=D.parity)
  (hs:¬E' ((t.h:Int)+1)→(g t).mr.dead=false→(g t).mr.color≠D.parity→¬E ((t.h:Int)+1)∧t.mr.dead=false∧t.mr.color≠D.parity∧sv D.parity (g t).mr=sv D.parity t.mr)
  (hE:∀q,E q→E' q):xu E' D':=by
 have htl:=(find_live hf).1
 have hm:∀s,s∈D'.live→s=g t∨(s∈D.live∧s.h≠t.h):=fun s h=>by
  unfold Wd.live at h
  rw[hts] at h
  exact eZ S.nd hf h
 have hsum:∀q,q≠0→¬E' q→sumL (D'.ph q) D'.ts=sumL (D.ph q) D.ts:=fun q h0 h1=>by
  rw[MO k,hts]
  have h2:=ky (φ:=D.ph q) hf he
  rw[hp q h0 h1] at h2
  omega
 refine⟨fun s h h1 h2 h3=> ?_,fun s h h1=> ?_⟩
 ·rw[hsum _ (by omega) h1]
  rw[k.1] at h3 ⊢
  rcases hm s h with rfl|⟨h4,_⟩
  ·rw[hh] at h1 ⊢
   obtain⟨k1,k2,k3,k4⟩:=hs h1 h2 h3
   rw[k4]
   exact H.sh t htl k1 k2 k3
  ·exact H.sh s h4 (fun e=>h1 (hE _ e)) h2 h3
 ·rw[k.2.1] at h1
  rw[k.1]
  rcases hm s h with rfl|⟨h4,_⟩
  ·rw[hh] at h1
   exact hc (H.ct t htl h1)
  ·exact H.ct s h4 h1
theorem xu.mark(H:xu E D)(S:San D)(r:Int){f:Mrk→Mrk}(hc:∀m,(f m).count=m.count)(hs:∀m,(f m).dead=false→(f m).color≠D.parity→m.dead=false∧m.color≠D.parity∧sv D.parity (f m)=sv D.parity m):xu E (D.mark r f):=by
 cases hf:D.find r with
 |none=>rw[bL f hf];exact H
 |some t=>
  refine H.upd (E':=E) (g:=fun t=>{t with mr:=f t.mr}) S hf rfl ⟨rfl,rfl,rfl,rfl⟩ (bG hf).2.1 rfl (fun q _ _=>Rj (hc _)) (fun h=>(hc _).trans h) (fun h1 h2 h3=> ?_) (fun _ h=>h)
  obtain⟨k1,k2,k3⟩:=hs t.mr h2 h3
  exact⟨h1,k1,k2,k3⟩
theorem sN(r:Int):Sam D (D.touch r):=by
 unfold Wd.touch
 split<;>exact⟨rfl,rfl,rfl,rfl⟩
theorem xu.paint(H:xu E D)(S:San D)(r:Int):xu E (D.paint r):=H.mark S r (f:=fun m=>{m with color:=D.parity}) (fun _=>rfl) (fun m _ h=>absurd rfl h)
theorem xu.touch(H:xu E D)(S:San D)(r:Int):xu E (D.touch r):=by
 unfold Wd.touch
 split
 ·exact(H.paint S r).same rfl ⟨rfl,rfl,rfl,rfl⟩
 ·exact H
variable {hold:Nat→Nat}
theorem Dyed.same(h:Dyed D)(k:D'.ts=D.ts)(hp:D'.parity=D.parity):Dyed D':=⟨hp.trans h.1,by rw[k];exact h.2⟩
theorem Dyed.touch(h:Dyed D)(r:Int):Dyed (D.touch r):=by
 rcases iG (D:=D) r with k|k
 ·exact h.same k (sN r).1
 ·exact(h.mark r (f:=fun m=>{m with color:=D.parity}) (fun m hm=>hm)).same k (sN r).1
def TM(D:Wd):Prop:=(D.phase=0∧Dyed D)∨(D.phase=1∧xu (fun _=>False) D)
theorem TM.begin_(T:TM D)(h0:D.phase=0):TM (D.turn.begin 1):=by
 rcases T with⟨h,k⟩|⟨h,k⟩
 ·refine .inr ⟨rfl,?_,?_⟩
  ·intro s hs _ _ _
   have hp:(D.turn.begin 1).parity=1:=by
    show 1-D.parity=1
    rw[k.1]
    rfl
   have hm:=k.2 s (mem_live.1 (show s∈aU D.ts from hs)).1
   rw[hp]
   unfold sv
   rw[if_neg (by rw[hm.2];decide),sumL_none (fun u hu=> ?_)]
   ·rfl
   ·have hu2:=k.2 u (mem_live.1 (show u∈aU D.ts from hu)).1
    show Py (D.turn.begin 1).parity 0 0 _ u=0
    rw[hp]
    unfold Py Ub
    rw[if_neg (by rw[hu2.1];decide)]
    split<;>rfl
  ·intro s hs h1
   have h1:(s.h:Int)<0:=h1
   omega
 ·omega
end
section
variable (D:Wd)
def Wd.kV:Option Th→Wd
 |none=>{D with scan:=0}
 |some t=>if D.scanF<(t.pt.length:Int) then {D.touch (nth t.pt D.scanF.toNat) with scanF:=D.scanF+1} else {D with scan:=0}
def Wd.settle(r:Int):Wd:=D.mark r (fun m=>{m with shade:=D.parity,shadow:=D.shd r})
def Wd.jf(r:Int):Option Th→Wd
 |none=>D
 |some t=>if t.mr.dead then D else if D.shd r<t.mr.refs then(D.settle r).touch r else D.settle r
def Wd.pX:Wd:={D.jf (D.cursor+1) (D.find (D.cursor+1)) with cursor:=D.cursor+1}
def Wd.floodB:Bool:=decide (D.phase=2)&&(!decide (D.scan=0)|| !D.ring.isEmpty||decide (D.cursor<(D.n:Int)))
def Wd.flood:Wd:=
 if D.floodB then
  if D.scan=0 then
   match D.ring with
   |b::rest=>{D with ring:=rest,scan:=(b:Int)+1,scanF:=0}
   |[]=>D.pX
  else D.kV (D.find D.scan)
 else D
end
def UF(D:Wd)(x:Int):Prop:=∀v,v∈D.live→(v.h:Int)+1=x→v.mr.dead=true∨v.mr.color=D.parity
def QD(D:Wd):Prop:=∀u,u∈D.live→u.mr.dead=false→u.mr.color=D.parity→∀i,i<u.pt.length→u.h∈D.ring∨((u.h:Int)+1=D.scan∧D.scanF≤(i:Int))∨UF D (nth u.pt i)
section
variable {D D':Wd} {t u v:Th} {r x y:Int} {g:Th→Th}
theorem CW{x:Int}:∀{l:List Nat},hasB (ints l) x=true→x.toNat∈l
 |[],h=>by simp[ints,hasB] at h
 |a::l,h=>by
  by_cases e:(a:Int)=x
  ·have:x.toNat=a:=by omega
   rw[this]
   exact List.mem_cons_self ..
  ·refine List.mem_cons_of_mem _ (CW ?_)
   unfold hasB ints at h ⊢
   simp at h ⊢
   rcases h with h|h
   ·exact absurd h e
   ·exact h
theorem QD.touch(H:QD D)(S:San D)(r:Int):QD (D.touch r):=by
 cases ht:D.aH r with
 |false=>
  have e:D.touch r=D:=by unfold Wd.touch;rw[ht];rfl
  rw[e]
  exact H
 |true=>
  cases hf:D.find r with
  |none=>unfold Wd.aH at ht;rw[hf] at ht;cases ht
  |some t=>
   obtain⟨htl,er⟩:=find_live hf
   have e:D.touch r={D.paint r with ring:=if hasB (ints D.ring) (r-1) then D.ring else D.ring++[(r-1).toNat]}:=by unfold Wd.touch;rw[ht];rfl
   have hth:t.h=(r-1).toNat:=by omega
   have hin:t.h∈(D.touch r).ring:=by
    rw[e]
    show t.h∈(if hasB (ints D.ring) (r-1) then D.ring else D.ring++[(r-1).toNat])
    split
    ·rename_i hb
     rw[hth]
     exact CW hb
    ·rw[hth]
     simp
   have hri:∀b,b∈D.ring→b∈(D.touch r).ring:=fun b hb=>by
    rw[e]
    show b∈(if hasB (ints D.ring) (r-1) then D.ring else D.ring++[(r-1).toNat])
    split
    ·exact hb
    ·exact List.mem_append_left _ hb
   have hsc:(D.touch r).scan=D.scan∧(D.touch r).scanF=D.scanF∧(D.touch r).parity=D.parity:=by rw[e];exact⟨rfl,rfl,rfl⟩
   have hm:∀s,s∈(D.touch r).live→s={t with mr:={t.mr with color:=D.parity}}∨(s∈D.live∧s.h≠t.h):=fun s h=>by
    rw[e] at h
    exact eZ (g:=fun t=>{t with mr:={t.mr with color:=D.parity}}) S.nd hf h
   intro u hu h1 h2 i hi
   rcases hm u hu with rfl|⟨k,_⟩
   ·exact .inl hin
   ·rw[hsc.2.2] at h2
    rcases H u k h1 h2 i hi with h|h|h
    ·exact .inl (hri _ h)
    ·exact .inr (.inl (by rw[hsc.1,hsc.2.1];exact h))
    ·refine .inr (.inr (fun v hv e2=> ?_))
     rw[hsc.2.2]
     rcases hm v hv with rfl|⟨k2,_⟩
     ·exact .inr rfl
     ·exact h v k2 e2
theorem San.jh(S:San D)(o:Option Th):San (D.kV o):=by
 unfold Wd.kV
 split
 ·exact S.same_but rfl rfl rfl rfl (fun b hb=>.inl hb)
 ·split
  ·exact(S.touch _).same_but rfl rfl rfl rfl (fun b hb=>.inl hb)
  ·exact S.same_but rfl rfl rfl rfl (fun b hb=>.inl hb)
theorem San.settle(S:San D)(r:Int):San (D.settle r):=S.mark r (fun _=>rfl) (fun _=>rfl) (fun _=>rfl)
theorem San.jf(S:San D)(r:Int)(o:Option Th):San (D.jf r o):=by
 unfold Wd.jf
 split
 ·exact S
 ·split
  ·exact S
  ·split
   ·exact(S.settle r).touch r
   ·exact S.settle r
theorem San.flood(S:San D):San D.flood:=by
 unfold Wd.flood
 split
 ·split
  ·split
   ·rename_i b rest hr
    exact S.same_but rfl rfl rfl rfl (fun c hc=>.inl (by rw[hr];exact List.mem_cons_of_mem _ hc))
   ·exact(S.jf _ _).same_but rfl rfl rfl rfl (fun b hb=>.inl hb)
  ·exact S.jh _
 ·exact S
theorem QD.turn(h:∀t,t∈D.live→t.mr.color=0)(hp:D.parity=0):QD (D.turn.begin 1):=fun u hu h1 h2 i hi=>by
 have h3:=h u hu
 have h4:(D.turn.begin 1).parity=1:=by
  show 1-D.parity=1
  rw[hp]
  rfl
 rw[h3,h4] at h2
 cases h2
end
theorem TY:∀x:Nat,x<128→x ^^^ 16=if x/16%2=0 then x+16 else x-16:=by decide
theorem Qk{x:Int}(hx:dw x)(hk:bJ x):bits .xor .u32 x 16=dB x (uC x) (uN x) (1-uS x) (uD x):=by
 obtain⟨hr,h128,h0⟩:=hx
 unfold bZ at hr
 unfold bJ at hk
 have hlt:x<128:=by
  have h1:uO x=0:=by omega
  unfold uO at h1
  omega
 obtain⟨X,rfl⟩:=Int.eq_ofNat_of_zero_le h0
 rw[u32_xor _ _ (by omega) (by omega) (by omega) (by omega),Int.toNat_natCast,show(16:Int).toNat=16 from rfl,TY X (by omega)]
 unfold dB cz uK uC uN uS uD uG
 split<;>omega
theorem IM{r:Int}{t:Th}{g:Th→Th}:∀{l:List Th},findL r l=some t→g t=t→updL r g l=l
 |u::l,h,hg=>by
  unfold findL at h
  unfold updL
  cases hu:u.at r with
  |true=>
   rw[hu] at h
   simp at h
   subst h
   rw[if_pos rfl,hg]
  |false=>
   rw[hu] at h
   simp at h
   rw[if_neg (by simp),IM h hg]
section
variable {c:Cf} {zs:List Int} {D:Wd} {t:Th} {r:Int}
theorem JY(hf:D.find r=some t)(h:t.mr.shade=D.parity):D.settle r=D:=by
 have hs:D.shd r=t.mr.shadow:=by unfold Wd.shd;rw[hf];simp only;rw[if_pos h]
 have:updL r (fun t=>{t with mr:={t.mr with shade:=D.parity,shadow:=D.shd r}}) D.ts=D.ts:=IM (t:=t) hf (by
  show({t with mr:={t.mr with shade:=D.parity,shadow:=D.shd r}}:Th)=t
  rw[hs,←h])
 show({D with ts:=updL r (fun t=>{t with mr:={t.mr with shade:=D.parity,shadow:=D.shd r}}) D.ts}:Wd)=D
 rw[this]
theorem tX(hf:D.find r=some t):(D.settle r).find r=some {t with mr:={t.mr with shade:=D.parity,shadow:=D.shd r}}:=mark_find _ hf
theorem Gr(hf:D.find r=some t):(D.settle r).shd r=D.shd r:=by
 show(match(D.settle r).find r with|none=>0|some t=>if t.mr.shade=D.parity then t.mr.shadow else 0)=_
 rw[tX hf]
 simp
theorem Gq(hf:D.find r=some t):(D.settle r).cnt r=t.mr.refs:=by
 unfold Wd.cnt
 rw[tX hf]
theorem Kc(R:au c zs D)(hz:Wz c zs)(hf:D.find r=some t)(hs:t.mr.shade≠D.parity):
  au c ((zs.set (ae c t.h 0) (dB (nth zs (ae c t.h 0)) (uC (nth zs (ae c t.h 0))) (uN (nth zs (ae c t.h 0))) (1-uS (nth zs (ae c t.h 0))) (uD (nth zs (ae c t.h 0))))).set (ae c t.h 4) 0) (D.settle r):=by
 obtain⟨h1,h2,h3,h4,h5⟩:=R.fA hf
 have hp:=R.par
 have h01:=(bK (nth zs (ae c t.h 0))).2.2.1
 have e1:1-uS (nth zs (ae c t.h 0))=D.parity:=by
  have:=h5.cS
  omega
 have es:D.shd r=0:=by unfold Wd.shd;rw[hf];simp only;rw[if_neg hs]
 rw[e1]
 have R1:=sM R hf hz (bK _).1 (bK _).2.1 R.par (.inl rfl) (fun m=>{m with shade:=D.parity}) (by simp only;rw[h5.cC,h5.cN,h5.yK])
 have R2:=R1.nY hz.may (by simp;exact hz.len) (mark_find _ hf) (v:=4) (.inr rfl) (x:=0) (f:=fun m=>{m with shadow:=0}) rfl
 rw[lw] at R2
 unfold Wd.settle
 rw[es]
 exact R2
theorem Ej(R:au c zs D)(hz:Wz c zs){b:Nat}{rest:List Nat}(hr:D.ring=b::rest):au c (aT c b zs) {D with ring:=rest}:=by
 obtain⟨u,hu,e⟩:=R.uP hz.may (x:=b) (by rw[hr];exact List.mem_cons_self ..)
 have hf:=R.findIt hu
 have h:=wP R hz hf (by rw[hr,e];exact List.mem_cons_self ..)
 have hnd:=R.ring.nd
 rw[hr,List.nodup_cons] at hnd
 have e2:D.aJ u.h={D with ring:=rest}:=by
  unfold Wd.aJ
  congr 1
  rw[hr,e,List.filter_cons_of_neg (by simp)]
  exact List.filter_eq_self.2 (fun x hx=>by
   have:x≠b:=fun e3=>hnd.1 (by rw[←e3];exact hx)
   simpa using this)
 rw[e2,e] at h
 exact h
theorem au.Ay(R:au c zs D)(hz:Wz c zs)(x:Int):au c (zs.set 14 x) {D with scan:=x}:=by
 refine R.jy hz.may hz.len (k:=14) (by omega) (by omega) rfl rfl rfl rfl rfl rfl rfl rfl (fun j h1 h2 h3=> ?_) R.par
 have:j=10∨j=11∨j=12∨j=13∨j=15∨j=16∨j=17∨j=18:=by omega
 rcases this with rfl|rfl|rfl|rfl|rfl|rfl|rfl|rfl<;>rfl
theorem au.DK(R:au c zs D)(hz:Wz c zs)(x:Int):au c (zs.set 15 x) {D with scanF:=x}:=by
 refine R.jy hz.may hz.len (k:=15) (by omega) (by omega) rfl rfl rfl rfl rfl rfl rfl rfl (fun j h1 h2 h3=> ?_) R.par
 have:j=10∨j=11∨j=12∨j=13∨j=14∨j=16∨j=17∨j=18:=by omega
 rcases this with rfl|rfl|rfl|rfl|rfl|rfl|rfl|rfl<;>rfl
theorem au.scans(R:au c zs D)(hz:Wz c zs):(0≤D.scan∧D.scan≤4294967295)∧0≤D.scanF∧D.scanF≤4294967295:=by
 have h1:=R.reg 14 (by omega) (by omega)
 have h2:=R.reg 15 (by omega) (by omega)
 have e1:D.reg 14=D.scan:=rfl
 have e2:D.reg 15=D.scanF:=rfl
 rw[e1] at h1
 rw[e2] at h2
 have b1:=hz.wf 14
 have b2:=hz.wf 15
 rw[←h1,←h2]
 exact⟨b1,b2⟩
end
end Go.Proofs.YtofhdfjkhfkhiaaGreat.Pk
