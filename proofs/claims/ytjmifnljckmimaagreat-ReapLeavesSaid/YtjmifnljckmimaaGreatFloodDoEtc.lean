/-
  Texts laid together: FloodDo, FloodRun, FloodRch, FloodAlb, TallyOne, FloodInv, TallyCntF, FloodFin, FloodLaw, FloodFindF, ReapW.
-/
import Derived.Test.YtjmifnljckmimaaGreatFloodFnEtc
import Derived.Test.YtjmifnljckmimaaGreatRefSeeEtc
import Derived.Test.YtjmifnljckmimaaGreatGravGrownEtc
import Derived.Test.YtjmifnljckmimaaGreatWholeRowFEtc
import Derived.Test.YtjmifnljckmimaaGreatTameEtc
namespace Go.Proofs.YtjmifnljckmimaaGreat.Pk
open Lib (hid)
open Go.RowKit
set_option linter.unusedVariables false
set_option linter.unusedSimpArgs false
set_option maxRecDepth 100000
section
variable {c:Cf} {zs:List Int} {D:Wd} {t:Th} {r:Int}
theorem IK(hf:D.find r=some t):Does c D 184 [.int .i64 r] 4 (D.settle r) (.tuple #[]):=fun zs hz R=>by
 obtain⟨h1,h2,h3,h4,h5⟩:=R.fH hf
 obtain⟨htl,er⟩:=find_live hf
 have hlt:=R.hlt htl
 have hwf:=hz.wf (adr c t.h 0)
 have C1:Run c 95 [] zs 1 zs (.int .i64 D.parity):=fun p m w hG=>aZ hG _ (R.reg 10 (by omega) (by omega))
 subst er
 by_cases hs:t.mr.shade=D.parity
 ·rw[Jh hf hs]
  exact⟨zs,⟨2,by omega,vo hlt hz.may rfl hwf.1 hwf.2 (by rw[h5.cS];exact hs) C1⟩,R⟩
 ·have ok:=mi h1 h2 (bC (nth zs (adr c t.h 0))).1 (bC (nth zs (adr c t.h 0))).2.1 (show 1-uS (nth zs (adr c t.h 0))=0∨1-uS (nth zs (adr c t.h 0))=1 by have:=(bC (nth zs (adr c t.h 0))).2.2.1;omega) (bC (nth zs (adr c t.h 0))).2.2.2
  obtain⟨_,_,_,_,_,_,_,y0,y1⟩:=ok
  exact⟨_,⟨4,by omega,xw hlt hz.may rfl hwf.1 hwf.2 (by rw[h5.cS];exact hs) (Oz h1 h2) y0 y1 C1⟩,Jm R hz hf hs⟩
theorem ER(h:D.scan=0):Does c D 138 [] 1 D (.bool false):=fun zs hz R=>
 ⟨zs,⟨1,by omega,EJ ((R.reg 14 (by omega) (by omega)).trans h)⟩,R⟩
theorem Nk(S:San D)(h:D.scan≠0):Does c D 138 [] 44 (D.jr (D.find D.scan)) (.bool true):=fun zs hz R=>by
 have h14:nth zs 14=D.scan:=R.reg 14 (by omega) (by omega)
 have h15:nth zs 15=D.scanF:=R.reg 15 (by omega) (by omega)
 obtain⟨⟨s0,s1⟩,f0,f1⟩:=R.scans hz
 have h64:In64 D.scan:=by constructor<;>omega
 have hob:=obAt_find R D.scan
 cases hf:D.find D.scan with
 |none=>
  rw[hf] at hob
  obtain⟨d1,hd1,C1⟩:=objFns.oM c zs D.clean D.obs D.scan hz R.heap h64 hob
  exact⟨_,⟨1+1+d1+1,by omega,tC h14 h h15 f0 C1⟩,R.AB hz 0⟩
 |some t=>
  rw[hf] at hob
  obtain⟨d1,hd1,C1⟩:=objFns.iJ c zs D.clean D.obs D.scan t.ob hz R.heap hob
  unfold Wd.jr
  simp only
  by_cases hff:D.scanF<(t.pt.length:Int)
  ·rw[if_pos hff]
   obtain⟨j,hj⟩:=Int.eq_ofNat_of_zero_le f0
   have hjl:j<t.pt.length:=by omega
   have hjn:D.scanF.toNat=j:=by omega
   have hsz:=(R.szt hz.may S (find_live hf).1).small
   obtain⟨x64,e,d2,hd2,C2⟩:=Gx S hz R hf hjl
   obtain⟨zs3,⟨d3,hd3,C3⟩,R3,hz3⟩:=(tintFns.touch c D (nth t.pt j) x64).at hz R
   rw[hjn]
   rw[hj] at h15 ⊢
   exact⟨_,⟨1+1+d1+d2+d3+1,by omega,MQ h14 h h15 (by omega) (by omega) (show(j:Int)<(t.ob.np:Int) by show(j:Int)<(t.pt.length:Int);omega) C1 C2 C3⟩,R3.Dw hz3 _⟩
  ·rw[if_neg hff]
   exact⟨_,⟨1+1+d1+1,by omega,tC h14 h h15 (show(t.ob.np:Int)≤D.scanF by show(t.pt.length:Int)≤D.scanF;omega) C1⟩,R.AB hz 0⟩
theorem zZ(h:D.ring=[]):Does c D 139 [] 26 D (.bool false):=fun zs hz R=>by
 have hr:=R.ring
 rw[h] at hr
 obtain⟨d1,hd1,C1⟩:=GY.take_no c zs hz hr
 exact⟨zs,⟨d1,by omega,zL C1⟩,R⟩
theorem II{b:Nat}{rest:List Nat}(h:D.ring=b::rest):Does c D 139 [] 26 {D with ring:=rest,scan:=(b:Int)+1,scanF:=0} (.bool true):=fun zs hz R=>by
 have hr:=R.ring
 rw[h] at hr
 have A:=GY.take_yes c zs rest b hz hr
 have hz1:=A.wz hz
 obtain⟨d1,hd1,C1⟩:=A
 have hb:b<c.N:=hr.lt b (List.mem_cons_self ..)
 have hmn:=hz.may.n
 have R1:=Ea R hz h
 have R2:=R1.AB hz1 ((b:Int)+1)
 have R3:=R2.Dw (hz1.set 14 (by omega) (by omega)) 0
 exact⟨_,⟨d1+1+1,by omega,Iw (by omega) C1⟩,R3⟩
theorem La{D':Wd}(h:D'.field=D.field)(k:Int):D'.move k D.field={D' with cursor:=k}:=by
 unfold Wd.move
 rw[←h]
theorem Nj(S:San D)(h:D.cursor<(D.n:Int)):Does c D 140 [] 42 D.Ac (.bool true):=fun zs hz R=>by
 have hm:=hz.may
 have hmn:=hm.n
 have hN:=R.n
 obtain⟨⟨k0,k1⟩,f0,f1⟩:=R.curs hz
 have hk':D.cursor<(c.N:Int):=by rw[←hN];exact h
 have hr:In64 (D.cursor+1):=by constructor<;>omega
 obtain⟨zs1,⟨d1,hd1,C1⟩,R1,hz1⟩:=(tintFns.at_ c D).at hz R
 obtain⟨zs2,⟨d2,hd2,C2⟩,R2,hz2⟩:=(Gw (c:=c) (D:=D) hr).at hz1 R1
 have hfin:∀D':Wd,D'.field=D.field→Does c D' 53 [.int .i64 (D.cursor+1),.int .i64 D.field] 2 {D' with cursor:=D.cursor+1} (.bool true):=fun D' hD=>by
  have:=je (c:=c) (D:=D') (x:=D.cursor+1) (y:=D.field) (by omega) (by omega) f0 f1
  rwa[La hD] at this
 unfold Wd.Ac
 cases hf:D.find (D.cursor+1) with
 |none=>
  rw[hf] at C2
  obtain⟨zs3,⟨d3,hd3,C3⟩,R3,hz3⟩:=(hfin D rfl).at hz2 R2
  exact⟨zs3,⟨d1+d2+d3,by omega,zN k0 hk' hm C1 C2 C3⟩,R3⟩
 |some t=>
  rw[hf] at C2
  obtain⟨zs3,⟨d3,hd3,C3⟩,R3,hz3⟩:=(tintFns.dead c D (D.cursor+1) hr).at hz2 R2
  have hdd:D.dead (D.cursor+1)=t.mr.dead:=by unfold Wd.dead;rw[hf]
  rw[hdd] at C3
  unfold Wd.bI
  simp only
  by_cases hd:t.mr.dead=true
  ·rw[hd] at C3
   rw[if_pos hd]
   obtain⟨zs4,⟨d4,hd4,C4⟩,R4,hz4⟩:=(hfin D rfl).at hz3 R3
   exact⟨zs4,⟨d1+d2+d3+d4,by omega,zM k0 hk' hm C1 C2 C3 C4⟩,R4⟩
  ·have hdf:t.mr.dead=false:=by cases h:t.mr.dead;rfl;exact absurd h hd
   rw[hdf] at C3
   rw[if_neg hd]
   obtain⟨zs4,⟨d4,hd4,C4⟩,R4,hz4⟩:=(IK (c:=c) hf).at hz3 R3
   obtain⟨zs5,⟨d5,hd5,C5⟩,R5,hz5⟩:=(zP (c:=c) (D:=D.settle (D.cursor+1)) hr).at hz4 R4
   obtain⟨zs6,⟨d6,hd6,C6⟩,R6,hz6⟩:=(tintFns.shadow c (D.settle (D.cursor+1)) (D.cursor+1) hr).at hz5 R5
   rw[FI hf] at C5
   rw[FJ hf] at C6
   by_cases hlt:D.dP (D.cursor+1)<t.mr.refs
   ·rw[if_pos hlt]
    obtain⟨zs7,⟨d7,hd7,C7⟩,R7,hz7⟩:=(tintFns.touch c (D.settle (D.cursor+1)) (D.cursor+1) hr).at hz6 R6
    obtain⟨zs8,⟨d8,hd8,C8⟩,R8,hz8⟩:=(hfin ((D.settle (D.cursor+1)).touch (D.cursor+1)) (gF (D:=D.settle (D.cursor+1)) _).2.2.1).at hz7 R7
    exact⟨zs8,⟨d1+d2+d3+d4+d5+d6+d7+d8,by omega,EI k0 hk' hm hlt C1 C2 C3 C4 C5 C6 C7 C8⟩,R8⟩
   ·rw[if_neg hlt]
    obtain⟨zs7,⟨d7,hd7,C7⟩,R7,hz7⟩:=(hfin (D.settle (D.cursor+1)) rfl).at hz6 R6
    exact⟨zs7,⟨d1+d2+d3+d4+d5+d6+d7,by omega,Ci k0 hk' hm (by omega) C1 C2 C3 C4 C5 C6 C7⟩,R7⟩
theorem EQ(h:¬D.cursor<(D.n:Int)):Does c D 140 [] 42 D (.bool false):=fun zs hz R=>by
 have hN:=R.n
 obtain⟨zs1,⟨d1,hd1,C1⟩,R1,hz1⟩:=(tintFns.at_ c D).at hz R
 exact⟨zs1,⟨d1,by omega,Ch (by rw[←hN];omega) C1⟩,R1⟩
theorem KS(S:San D):Does c D 77 [] 96 D.aT (.bool D.bu):=fun zs hz R=>by
 obtain⟨zs1,⟨d1,hd1,C1⟩,R1,hz1⟩:=(tintFns.phase c D).at hz R
 by_cases hp:D.phase=2
 ·rw[hp] at C1
  by_cases hs:D.scan=0
  ·obtain⟨zs2,⟨d2,hd2,C2⟩,R2,hz2⟩:=(ER (c:=c) hs).at hz1 R1
   cases hr:D.ring with
   |cons b rest=>
    have e:D.bu=true:=by unfold Wd.bu;simp[hp,hr]
    obtain⟨zs3,⟨d3,hd3,C3⟩,R3,hz3⟩:=(II (c:=c) hr).at hz2 R2
    unfold Wd.aT
    rw[e,if_pos rfl,if_pos hs,hr]
    exact⟨zs3,⟨d1+d2+d3,by omega,vk C1 C2 C3⟩,R3⟩
   |nil=>
    obtain⟨zs3,⟨d3,hd3,C3⟩,R3,hz3⟩:=(zZ (c:=c) hr).at hz2 R2
    by_cases hk:D.cursor<(D.n:Int)
    ·have e:D.bu=true:=by unfold Wd.bu;simp[hp,hk]
     obtain⟨zs4,⟨d4,hd4,C4⟩,R4,hz4⟩:=(Nj (c:=c) S hk).at hz3 R3
     unfold Wd.aT
     rw[e,if_pos rfl,if_pos hs,hr]
     exact⟨zs4,⟨d1+d2+d3+d4,by omega,qy C1 C2 C3 C4⟩,R4⟩
    ·have e:D.bu=false:=by unfold Wd.bu;simp[hs,hr,hk]
     obtain⟨zs4,⟨d4,hd4,C4⟩,R4,hz4⟩:=(EQ (c:=c) hk).at hz3 R3
     rw[jT e,e]
     exact⟨zs4,⟨d1+d2+d3+d4,by omega,qy C1 C2 C3 C4⟩,R4⟩
  ·have e:D.bu=true:=by unfold Wd.bu;simp[hp,hs]
   obtain⟨zs2,⟨d2,hd2,C2⟩,R2,hz2⟩:=(Nk (c:=c) S hs).at hz1 R1
   unfold Wd.aT
   rw[e,if_pos rfl,if_neg hs]
   exact⟨zs2,⟨d1+d2,by omega,zK C1 C2⟩,R2⟩
 ·have e:=vw hp
  rw[jT e,e]
  exact⟨zs1,⟨d1,by omega,xu hp C1⟩,R1⟩
end
section
variable {w wr w':World} {p:Pl} {c:Cf} {k m n:Nat} {D D':Wd} {t u:Th}
theorem RSt.cursF(h:RSt w p c D wr):0≤D.cursor∧0≤D.field∧D.n=c.N∧0≤D.scanF:=by
 obtain⟨zs,m,hG,hR,_⟩:=h
 exact⟨(hR.curs hG.wz).1.1,(hR.curs hG.wz).2.1,hR.n,(hR.scans hG.wz).2.1⟩
def Av(N:Nat)(D:Wd):Nat:=((N:Int)*100002+100001-(D.cursor*100002+D.field)).toNat
theorem NU{N:Nat}(hN:D.n=N)(hc:0≤D.cursor)(hf:0≤D.field)(hfl:D.field≤100000)(hs:∀t,t∈D.live→t.pt.length≤100000)(hb:D.bv=true):Av N D.tally+1≤Av N D∧D.tally.field≤100000:=by
 have hlt:D.cursor<(N:Int):=by
  unfold Wd.bv at hb
  rw[hN] at hb
  simp at hb
  exact hb.2
 have key:D.tally.cursor*100002+D.tally.field≥D.cursor*100002+D.field+1∧D.tally.cursor*100002+D.tally.field≤(N:Int)*100002+100000∧D.tally.field≤100000:=by
  unfold Wd.tally
  rw[hb,if_pos rfl]
  unfold Wd.dV
  have e1:(D.move (D.cursor+1) 0).cursor=D.cursor+1∧(D.move (D.cursor+1) 0).field=0:=⟨rfl,rfl⟩
  cases hfd:D.find (D.cursor+1) with
  |none=>
   simp only
   rw[e1.1,e1.2]
   omega
  |some t=>
   have ht:=hs t (find_live hfd).1
   simp only
   split
   ·rw[e1.1,e1.2]
    omega
   ·split
    ·show D.cursor*100002+(D.field+1)≥_∧D.cursor*100002+(D.field+1)≤_∧D.field+1≤100000
     omega
    ·show(D.cursor+1)*100002+0≥_∧(D.cursor+1)*100002+0≤_∧(0:Int)≤100000
     omega
 unfold Av
 omega
theorem RSt.RS(h:RSt w p c D wr)(S:San D)(hN:c.N≤1000):xh D≤1000000000:=by
 have hcu:=h.cursF
 have hsz:=h.sizes
 have htot:=h.total S
 have hri:=(h.sit S).lens.1
 have h1:au (whiteT D.parity) D.ts≤100002*au occT D.ts:=mG 100002 (fun t ht=>by
  have h2:=hsz t ht
  have h3:1≤occT t:=by unfold occT;split<;>omega
  unfold whiteT
  split<;>omega)
 have h2:∀l:List Nat,gT D l≤100002*l.length:=fun l=>by
  induction l with
  |nil=>exact Nat.le_refl _
  |cons b l ih=>
   have e:gT D (b::l)=mV (D.find ((b:Int)+1))+gT D l:=by unfold gT;simp
   have h3:mV (D.find ((b:Int)+1))≤100002:=by
    cases hf:D.find ((b:Int)+1) with
    |none=>exact(show 2≤100002 by decide)
    |some t=>
     have:=hsz t (find_live hf).1
     show t.pt.length+2≤_
     omega
   rw[e,List.length_cons]
   omega
 have h3:=h2 D.ring
 have h4:(if D.scan=0 then 0 else jm D.scanF (D.find D.scan))≤100001:=by
  split
  ·omega
  ·cases hf:D.find D.scan with
   |none=>exact(show 1≤100001 by decide)
   |some t=>
    have:=hsz t (find_live hf).1
    show((t.pt.length:Int)-D.scanF).toNat+1≤_
    omega
 have h5:((D.n:Int)-D.cursor).toNat≤1000:=by omega
 unfold xh pg
 omega
end
def QH(w:World)(p:Pl)(c:Cf)(D1:Wd)(ws:World)(e:Ending)(w':World):Prop:=
 ∃m n:Nat,e=.returned (.int .i64 (n:Int))∧(∀j,j<m→(ak j D1).bv=true)∧(ak m D1).bv=false∧
  (∀j,j<n→(aL j ((ak m D1).begin 2)).bu=true)∧(aL n ((ak m D1).begin 2)).bu=false∧
  n+xh (aL n ((ak m D1).begin 2))≤xh ((ak m D1).begin 2)∧
  RSt w p c (aL n ((ak m D1).begin 2)) w'∧San (aL n ((ak m D1).begin 2))∧Touch (inG p) ws w'
def RunT(w:World)(p:Pl)(c:Cf)(k:Nat)(D1:Wd)(ws:World)(m:Nat)(wx:World):Prop:=
 ∃i,RSt w p c (ak i D1) wx∧(∀j,j<i→(ak j D1).bv=true)∧PInv c (k+2+i) (ak i D1)∧(ak i D1).field≤100000∧i+m≤200000000∧Av c.N (ak i D1)≤m∧Touch (inG p) ws wx
set_option maxHeartbeats 2000000 in
theorem GZ{w ws:World}{p:Pl}{c:Cf}{k:Nat}{D:Wd}(h:RSt w p c D ws)(I:PInv c k D)(hk:k≤1000)(hN:c.N≤1000):
  Calls Tryz.prog 20 #[.pointer (some ⟨p.a,0,none⟩)] ws (QH w p c (D.turn.begin 1) ws):=by
 have I1:PInv c (k+2) (D.turn.begin 1):=I.turn.begin_ 1
 have hf0:(D.turn.begin 1).field≤100000:=show(0:Int)≤100000 by decide
 have HS:=hid h
 have HI1:=hid I1
 have HF0:=hid hf0
 have HK:=hid (And.intro hk hN)
 obtain⟨vt,ht⟩:=tintFns.turn c D
 have HTu:=hid ht
 have HBe:=hid (ld_begin (c:=c) (D:=D.turn) 1 (by decide) (by decide))
 clear h I I1 ht hk hN hf0
 generalize D.turn.begin 1=D1 at*
 obtain⟨μ,hμ⟩:=Cw (RunT w p c k D1 ws)
 have HM:=hid hμ
 clear hμ
 go_enter Tryz.func20,Tryz.ntmps20
 go_wp2_with fail
 refine(HS.out.does HTu.out).mono ?_
 rintro e w1 ⟨rfl,h1,hT1⟩
 have HS1:=hid h1
 have HT1:=hid hT1
 clear h1 hT1
 go_wp2_with fail
 refine(HS1.out.does HBe.out).mono ?_
 rintro e w2 ⟨rfl,h2,hT2⟩
 have H0:Hid (∃m,RunT w p c k D1 ws m w2):=hid ⟨Av c.N D1,0,h2,fun j hj=>by omega,HI1.out,HF0.out,by
  have h3:=RSt.cursF (D:=D1) h2
  have h4:=HK.out.2
  unfold Av
  omega,Nat.le_refl _,HT1.out.trans hT2⟩
 clear h2 hT2
 go_wp2_with fail
 generalize hw2:w2=wy at*
 clear hw2
 go_loopw [] (fun wx=>∃m,RunT w p c k D1 ws m wx) (fun wx=>μ wx)
 case atStart=>exact H0.out
 case round=>
  obtain⟨m0,hm0⟩:=hrel
  obtain⟨⟨i,hS,hj,hI,hf,hi,hr,hT⟩,_⟩:=HM.out wr m0 hm0
  clear hm0
  have HSx:=hid hS
  have hcu:=hS.cursF
  have HTy:=hid (KT (c:=c) hI.san (fun q=>by have h1:=hI.bd.dP q;have h2:=HK.out.1;omega))
  have HTx:=hid hT
  cases hb:(ak i D1).bv with
  |true=>
   rw[hb] at HTy
   obtain⟨hlt,hfl⟩:=NU (N:=c.N) hcu.2.2.1 hcu.1 hcu.2.1 hf hS.sizes hb
   have HJ:Hid (∀j,j<i+1→(ak j D1).bv=true):=hid (fun j h=>by
    by_cases e:j=i
    ·rw[e];exact hb
    ·exact hj j (by omega))
   have HIx:Hid (PInv c (k+2+(i+1)) (ak (i+1) D1)):=hid hI.tally
   have HFx:Hid ((ak (i+1) D1).field≤100000):=hid hfl
   obtain⟨m,hme⟩:∃m,m+1=μ wr:=⟨μ wr-1,by omega⟩
   have HK2:Hid (i+1+m≤200000000∧Av c.N (ak (i+1) D1)≤m):=hid ⟨by omega,by have:Av c.N (ak (i+1) D1)+1≤Av c.N (ak i D1):=hlt;omega⟩
   have HMe:=hid hme
   clear hS hcu hb hlt hfl hI hf hi hr hT hj hme
   go_wp2_with fail
   refine(HSx.out.does HTy.out).mono ?_
   rintro e w3 ⟨rfl,h3,hT3⟩
   have HE:Hid (RunT w p c k D1 ws m w3):=hid ⟨i+1,h3,HJ.out,HIx.out,HFx.out,HK2.out.1,HK2.out.2,HTx.out.trans hT3⟩
   clear h3 hT3
   go_wp2_with fail
   go_roundw
   case rel=>exact⟨m,HE.out⟩
   case measure=>
    have h1:=(HM.out w3 m HE.out).2
    have h2:=HMe.out
    omega
  |false=>
   rw[hb] at HTy
   have HTy2:=hid (HTy.out.as rfl (qd hb))
   have HBe2:=hid (ld_begin (c:=c) (D:=ak i D1) 2 (by decide) (by decide))
   have HS2:Hid (San ((ak i D1).begin 2)):=hid (hI.san.same_but rfl rfl rfl rfl (fun b hb=>.inl hb))
   have HJ:=hid hj
   have HB:=hid hb
   clear hS hcu hb hI hf hi hr hT hj HTy
   go_wp2_with fail
   refine(HSx.out.does HTy2.out).mono ?_
   rintro e w3 ⟨rfl,h3,hT3⟩
   have HS3:=hid h3
   have HT3:=hid (HTx.out.trans hT3)
   clear h3 hT3
   go_wp2_with fail
   refine(HS3.out.does HBe2.out).mono ?_
   rintro e w4 ⟨rfl,h4,hT4⟩
   have HS4:=hid h4
   have HT4:=hid (HT3.out.trans hT4)
   have HPb:=hid (RSt.RS h4 HS2.out HK.out.2)
   clear h4 hT4
   go_wp2_with fail
   generalize hw4:w4=wz at*
   clear hw4
   go_loopw [3] (fun x wx=>∃n:Nat,x=.int .i64 (n:Int)∧RSt w p c (aL n ((ak i D1).begin 2)) wx∧San (aL n ((ak i D1).begin 2))∧(∀j,j<n→(aL j ((ak i D1).begin 2)).bu=true)∧n+xh (aL n ((ak i D1).begin 2))≤xh ((ak i D1).begin 2)∧Touch (inG p) ws wx) (fun x _=>xh ((ak i D1).begin 2)+1-(intOf x).toNat)
   case atStart=>exact⟨0,rfl,HS4.out,HS2.out,fun j hj=>by omega,by show 0+xh ((ak i D1).begin 2)≤_;omega,HT4.out⟩
   case round=>
    obtain⟨n,rfl,hS,hsn,hj,hpt,hT⟩:=hrel
    have HSx:=hid hS
    have HSn:=hid hsn
    have HJn:=hid hj
    have HPt:=hid hpt
    have HTx:=hid hT
    have HFl:=hid (KS (c:=c) hsn)
    have hpb:=HPb.out
    cases hb:(aL n ((ak i D1).begin 2)).bu with
    |true=>
     rw[hb] at HFl
     have hlt:xh (aL (n+1) ((ak i D1).begin 2))+1≤xh (aL n ((ak i D1).begin 2)):=IZ hsn hS.cursF.2.2.2 hb
     have HPn:Hid (n+1+xh (aL (n+1) ((ak i D1).begin 2))≤xh ((ak i D1).begin 2)):=hid (by omega)
     have HSn2:Hid (San (aL (n+1) ((ak i D1).begin 2))):=hid hsn.aT
     have HJn2:Hid (∀j,j<n+1→(aL j ((ak i D1).begin 2)).bu=true):=hid (fun j h=>by
      by_cases e:j=n
      ·rw[e];exact hb
      ·exact hj j (by omega))
     have hnb:n<1000000000:=by omega
     clear hS hsn hj hpt hT hb hlt hpb
     go_wp2_with fail
     refine(HSx.out.does HFl.out).mono ?_
     rintro e w5 ⟨rfl,h5,hT5⟩
     have HS5:Hid (RSt w p c (aL (n+1) ((ak i D1).begin 2)) w5):=hid h5
     have HT5:=hid (HTx.out.trans hT5)
     clear h5 hT5
     go_wp2_with fail
     go_roundw
     case rel=>exact⟨n+1,by go_num,HS5.out,HSn2.out,HJn2.out,HPn.out,HT5.out⟩
     case measure=>
      have:=HPn.out
      simp[intOf]
      omega
    |false=>
     rw[hb] at HFl
     have HFl2:=hid (HFl.out.as rfl (jT hb))
     have HBf:=hid hb
     clear hS hsn hj hpt hT hb hpb HFl
     go_wp2_with fail
     refine(HSx.out.does HFl2.out).mono ?_
     rintro e w5 ⟨rfl,h5,hT5⟩
     have HS5:=hid h5
     have HT5:=hid (HTx.out.trans hT5)
     clear h5 hT5
     go_wp2_with fail
     go_ret
     exact⟨i,n,rfl,HJ.out,HB.out,HJn.out,HBf.out,HPt.out,HS5.out,HSn.out,HT5.out⟩
def JE(D:Wd)(R:Int→Prop):Prop:=∀x t,R x→D.find x=some t→∀i,i<t.pt.length→nth t.pt i≠0→R (nth t.pt i)
def Mx(D:Wd)(fl:List Int)(m:Int→Prop):Prop:=(∀x,x∈fl→m x)∧JE D m∧∀R:Int→Prop,JE D R→(∀x,x∈fl→R x)→∀x,m x→R x
theorem nS:∀(n:Nat) (l:List Int),l.Nodup→(∀x,x∈l→1≤x∧x≤(n:Int))→l.length≤n
 |0,l,_,h=>by
  cases l with
  |nil=>exact Nat.le_refl _
  |cons x l=>
   have:=h x (List.mem_cons_self ..)
   omega
 |n+1,l,hd,h=>by
  have hd2:(l.erase ((n+1:Nat):Int)).Nodup:=hd.erase _
  have ih:=nS n (l.erase ((n+1:Nat):Int)) hd2 (fun x hx=>by
   have h1:=h x (List.mem_of_mem_erase hx)
   have h2:x≠((n+1:Nat):Int):=fun e=>by
    rw[e] at hx
    exact(List.Nodup.not_mem_erase hd) hx
   omega)
  rw[List.length_erase] at ih
  split at ih<;>omega
theorem PN{w:World}{lo:Nat}{e:TypeId}{size m:Nat}{u:Value}{xs:List Value}(h:w.ownsRow lo e size u m xs):∀g,u.ownBlock=some g→g<w.heap.size:=by
 intro g' hg'
 rcases h.2 with⟨rfl,_⟩|⟨g,cap,cur,rfl,hb,hg,r⟩
 ·cases hg'
 ·simp[Value.ownBlock] at hg'
  subst hg'
  exact lt_of_block hg
structure JB (w0:World) (c:Cf) (D:Wd) (fl:List Int) (q:Nat) (v:Value) (l:List Int) (wr:World):Prop where
 is:Blk wr q (ek (fun i=>.bool (decide ((i:Int)∈l))) (c.N+1)) 4
 td:wr.ownsRow (q+1) 3 1 v l.length (l.map (Value.int .i64))
 below:Below w0.heap.size w0 wr
 q:w0.heap.size≤q
 nd:l.Nodup
 fd:∀x,x∈l→∃t,D.find x=some t
 all:∀R:Int→Prop,JE D R→(∀x,x∈fl→R x)→∀x,x∈l→R x
section
variable {w0 wr w3:World} {c:Cf} {D:Wd} {fl l:List Int} {q j:Nat} {v v':Value} {x:Int} {hold:Nat→Nat} {p:Pl}
theorem JB.mark(h:JB w0 c D fl q v l wr)(hx:x=(j:Int)):Blk (wr.setCell ⟨q,j,none⟩ (.bool true)) q (ek (fun i=>.bool (decide ((i:Int)∈l++[x]))) (c.N+1)) 4:=by
 have h1:=h.is.set j (.bool true)
 rw[qm] at h1
 rw[pQ (g:=fun i=>if i=j then Value.bool true else .bool (decide ((i:Int)∈l))) (fun i _=>by
  by_cases e:i=j
  ·rw[if_pos e,e,hx];simp
  ·rw[if_neg e]
   have:((i:Int)∈l++[x])↔((i:Int)∈l):=by
    rw[List.mem_append,List.mem_singleton,hx]
    exact⟨fun k=>k.elim id (fun k=>absurd k (by omega)),.inl⟩
   simp only[this])]
 exact h1
theorem JB.QV(h:JB w0 c D fl q v l wr)(j:Nat):(wr.setCell ⟨q,j,none⟩ (.bool true)).ownsRow (q+1) 3 1 v l.length (l.map (Value.int .i64)):=
 gq h.td ((Touch.refl (fun b=>b=q) wr).setCell (p:=⟨q,j,none⟩) (fun _=>rfl) _) (fun g hg e=>by have:=bf h.td g hg;omega)
theorem JB.push(h:JB w0 c D fl q v l wr)(hx:x=(j:Int))(hn:x∉l)(hf:∃t,D.find x=some t)(hJ:∀R:Int→Prop,JE D R→(∀x,x∈fl→R x)→(∀x,x∈l→R x)→R x)
  (ho:w3.ownsRow (q+1) 3 1 v' (l.length+1) (l.map (Value.int .i64)++[.int .i64 x])) (hg:((wr.setCell ⟨q,j,none⟩ (.bool true)).alloc (.cells #[.int .i64 x] 3)).grownBy w3 v.ownBlock):
  JB w0 c D fl q v' (l++[x]) w3∧Touch (fun b=>b=q∨v.ownBlock=some b) wr w3:=by
 have hq:=bf h.td
 have T1:Touch (fun b=>v.ownBlock=some b) (wr.setCell ⟨q,j,none⟩ (.bool true)) w3:=(Touch.of_below (below_new _ _)).trans (nO hg)
 have T0:Touch (fun b=>b=q) wr (wr.setCell ⟨q,j,none⟩ (.bool true)):=(Touch.refl (fun b=>b=q) wr).setCell (p:=⟨q,j,none⟩) (fun _=>rfl) _
 have T:Touch (fun b=>b=q∨v.ownBlock=some b) wr w3:=(T0.mono (fun _ _ e=>.inl e)).trans (T1.mono (fun _ _ e=>.inr e))
 refine⟨⟨(h.mark hx).touch T1 (fun e=>by have:=hq q e;omega),?_,?_,h.q,?_,fun y hy=> ?_,fun R hC hR y hy=> ?_⟩,T⟩
 ·rw[List.length_append,List.map_append]
  exact ho
 ·exact h.below.trans (T.below (fun b hb=>by
   have:=h.q
   rcases hb with rfl|hb
   ·exact this
   ·have:=hq b hb
    omega) h.below.size)
 ·rw[List.nodup_append]
  refine⟨h.nd,by simp,fun a ha b hb e=> ?_⟩
  rw[List.mem_singleton] at hb
  exact hn (hb▸e▸ha)
 ·rw[List.mem_append,List.mem_singleton] at hy
  rcases hy with hy|rfl
  ·exact h.fd y hy
  ·exact hf
 ·rw[List.mem_append,List.mem_singleton] at hy
  rcases hy with hy|rfl
  ·exact h.all R hC hR y hy
  ·exact hJ R hC hR (h.all R hC hR)
theorem RSt.xJ{t:Th}(h:RSt w0 p c D wr)(hf:D.find x=some t):∃j:Nat,x=(j:Int)∧1≤j∧j≤c.N:=by
 obtain⟨h1,h2⟩:=find_live hf
 obtain⟨zs,m,hG,hR,_⟩:=h
 have:=hR.hlt h1
 exact⟨t.h+1,by omega,by omega,by omega⟩
def QJ(t:Th)(w:World)(e:Ending)(w':World):Prop:=
 ∃a1 c1 a2 n2 c2,e=.returned (.tuple #[.agg #[.slice a1 t.pt.length c1,.slice a2 n2 c2],.bool true])∧Row w' .i64 a1 t.pt∧(∀b off,a1=some ⟨b,off,none⟩→w.heap.size≤b∧b<w'.heap.size)∧Below w.heap.size w w'
theorem MS{t:Th}(S:San D)(hf:D.find x=some t)(h:RSt w0 p c D wr):Calls Tryz.prog 23 #[.pointer (some ⟨p.a,0,none⟩),.int .i64 x] wr (QJ t wr):=by
 refine h.looks (f:=23) (args:=[.int .i64 x]) (Q:=QJ t) (fun zs hz R=> ?_)
 obtain⟨htl,e⟩:=find_live hf
 have hl:=objFns.see_yes c zs D.clean D.obs t.ob hz R.heap (R.obMem htl)
 have e':((t.ob.h:Nat):Int)+1=x:=e
 rw[e'] at hl
 have hp:=GR S hz R htl
 intro p m w hG
 refine(hl p m w hG).mono ?_
 rintro e w' ⟨a1,c1,a2,c2,rfl,r1,r2,f1,f2,f12,hb,e1,e2⟩
 rw[hp] at r1
 exact⟨a1,c1,a2,_,c2,rfl,r1.row,fun b off e=>⟨f1 b off e,e1 b off e⟩,hb⟩
theorem Fb(n:Nat)(hn:n≤2000)(w:World):(Instr.makeSlice 52 (.int .i64 (n:Int)) (.int .i64 (n:Int))).run Tryz.prog w=.ok (.slice (some ⟨w.heap.size,0,none⟩) n n) (w.alloc (.cells (ek (fun _=>.bool false) n) 4)):=by
 obtain⟨i0,hi,hz0,hz1,hz2⟩:=info_parts QP
 have:=run_make w 52 4 i0 (.bool false) Tryz.underlying52 hi hz0 .i64 .i64 (n:Int) (n:Int) (by omega) (Int.le_refl _) (by rw[hz2];omega) (by omega)
 rw[this,hz1,←CG _ rfl]
 simp
end
def Sj(w0:World)(c:Cf)(D:Wd)(fl:List Int)(e:Ending)(w':World):Prop:=
 ∃(q:Nat) (m:Int→Bool),e=.returned (.slice (some ⟨q,0,none⟩) (c.N+1) (c.N+1))∧w0.heap.size≤q∧Blk w' q (ek (fun i=>.bool (m (i:Int))) (c.N+1)) 4∧Below w0.heap.size w0 w'∧Mx D fl (fun x=>m x=true)
def QB(D:Wd)(l:List Int)(x:Int):Prop:=∀t,D.find x=some t→∀i,i<t.pt.length→nth t.pt i≠0→nth t.pt i∈l
theorem QB.more{D:Wd}{l:List Int}{x:Int}(h:QB D l x)(m:List Int):QB D (l++m) x:=fun t ht i hi h0=>List.mem_append_left _ (h t ht i hi h0)
theorem Af{l:List Int}{k:Nat}(h:k<l.length):nth l k∈l:=by
 have:nth l k=l[k]:=by unfold nth;simp[List.getD,h]
 rw[this]
 exact List.getElem_mem h
theorem GK{l m:List Int}{k:Nat}(h:k<l.length):nth (l++m) k=nth l k:=by
 unfold nth
 simp[List.getD,List.getElem?_append_left h]
set_option maxHeartbeats 4000000 in
theorem Dp{w w0:World}{p:Pl}{c:Cf}{D:Wd}{hold:Nat→Nat}(h:RSt w p c D w0)(S:San D)(N:fP hold D)(hN:c.N≤1000)(a:Option Addr)(cap:Nat)(fl:List Int)(hr:Row w0 .i64 a fl)(hf:∀x,x∈fl→∃t,D.find x=some t)(hfl:fl.length≤1000):
  Calls Tryz.prog 19 #[.pointer (some ⟨p.a,0,none⟩),.slice a fl.length cap] w0 (Sj w0 c D fl):=by
 obtain⟨i0,hinf,hz0,hz1,hz2⟩:=info_parts oJ
 have hfc:=bW (c.N:Int) (c.W:Int) (c.R:Int) (c.K:Int)
 have HS:=hid h
 have HRow:=hid hr
 have HF:=hid hf
 have HNm:=hid N
 have HSa:=hid S
 have hNN:=hN
 clear h hr hf N S
 go_enter Tryz.func19,Tryz.ntmps19
 go_wp2_with fail
 refine HS.out.QL.mono ?_
 rintro e w1 ⟨rfl,hb⟩
 have HB1:=hid hb
 clear hb
 have hmk:=Fb (c.N+1) (by omega) w1
 rw[show((c.N+1:Nat):Int)=(c.N:Int)+1 by omega] at hmk
 have hw1:IntKind.i64.wrap ((c.N:Int)+1)=(c.N:Int)+1:=IntWalk.i64_in _ (by omega)
 go_wp2_with fail
 have HR0:Hid (JB w0 c D fl w1.heap.size (.slice none 0 0) [] (w1.alloc (.cells (ek (fun _=>.bool false) (c.N+1)) 4))):=hid ⟨by
  have e:(fun i:Nat=>Value.bool (decide ((i:Int)∈([]:List Int))))=fun _=>.bool false:=funext (fun i=>by simp)
  rw[e]
  exact Blk.new _ _ _,World.ownsRow_nil _ _ _ _,below_step HB1.out (below_new _ _),HB1.out.size,List.nodup_nil,fun x hx=>absurd hx (List.not_mem_nil),fun R _ _ x hx=>absurd hx (List.not_mem_nil)⟩
 generalize w1.alloc (.cells (ek (fun _=>.bool false) (c.N+1)) 4)=w2 at*
 generalize w1.heap.size=q at*
 clear hmk HB1 hfc hw1
 go_loopw [6,21] (fun tv i wr=>∃(k:Nat) (l:List Int),k≤fl.length∧i=.int .i64 (k:Int)∧JB w0 c D fl q tv l wr∧∀j,j<k→nth fl j∈l) (fun _ i _=>fl.length-(intOf i).toNat)
 case atStart=>exact⟨0,[],Nat.zero_le _,rfl,HR0.out,fun j hj=>by omega⟩
 case round=>
  obtain⟨k,l,hk,rfl,hR,hl⟩:=hrel
  have HR:=hid hR
  have HL:=hid hl
  have hll:l.length≤c.N:=nS _ _ hR.nd (fun x hx=>by
   obtain⟨t,ht⟩:=hR.fd x hx
   obtain⟨j,rfl,h1,h2⟩:=HS.out.xJ ht
   omega)
  by_cases hlt:k<fl.length
  ·obtain⟨b,off,rfl,hb,hc⟩:=HRow.out k hlt
   have hc':=(hR.below.cell (p:=⟨b,off+k,none⟩) hb).trans hc
   have hx:=Af hlt
   obtain⟨t,ht⟩:=HF.out _ hx
   obtain⟨j,hj,hj1,hjN⟩:=HS.out.xJ ht
   have hjl:j<c.N+1:=by omega
   rw[hj] at hc'
   have ci:=hR.is.arr hjl
   have fi:=hR.is.free j
   have hqz:=hR.is.lt
   by_cases hin:(j:Int)∈l
   ·rw[decide_eq_true hin] at ci
    have HL2:Hid (∀i,i<k+1→nth fl i∈l):=hid (fun i hi=>by
     by_cases e:i=k
     ·rw[e,hj];exact hin
     ·exact HL.out i (by omega))
    clear hR hl hx ht hj hin
    go_wp2_with fail
    go_roundw
    case rel=>exact⟨k+1,l,by omega,by go_num,HR.out,HL2.out⟩
    case measure=>simp[intOf];omega
   ·rw[decide_eq_false hin] at ci
    have HX:Hid ((j:Int)∉l∧nth fl k=(j:Int)∧∃t,D.find (j:Int)=some t):=hid ⟨hin,hj,t,hj▸ht⟩
    have hown:=hR.QV j
    have hqo:=hR.q
    have HFb:=hid hx
    clear hR hl hx ht hj hin
    go_wp2_with (at_builtin;refine wpList_append_lies _ rfl _ _ 45 rfl (q+1) 3 i0 (.int .i64 0) 1 8 Tryz.underlying45 hinf hz0 hz1 hz2 rfl (by decide) _ _ _ rfl (hown.alloc _) ⟨wr.heap.size,0,none⟩ 1 1 [.int .i64 (j:Int)] rfl rfl ?c1 ?c2 (by decide) ?c3 ?c4 ?c5 (wr.heap.size+1) (by simp) ?c6)
    case c1=>
     intro j2 z hz
     have:=cell_one_new (wr.setCell ⟨q,j,none⟩ (.bool true)) (.int .i64 (j:Int)) 3 j2 z hz
     rwa[show(wr.setCell ⟨q,j,none⟩ (.bool true)).heap.size=wr.heap.size by simp] at this
    case c2=>intro u hu;simp at hu;subst hu;rfl
    case c3=>unfold maxLen;omega
    case c4=>omega
    case c5=>simp;omega
    case c6=>
     intro g cap6 w6 ho hg hat hl6
     have hp:=(HR.out.push (x:=(j:Int)) rfl HX.out.1 HX.out.2.2 (fun R _ hR _=>HX.out.2.1▸hR _ HFb.out) ho hg).1
     have HP:=hid hp
     have HL2:Hid (∀i,i<k+1→nth fl i∈l++[(j:Int)]):=hid (fun i hi=>by
      rw[List.mem_append,List.mem_singleton]
      by_cases e:i=k
      ·rw[e];exact .inr HX.out.2.1
      ·exact .inl (HL.out i (by omega)))
     clear hp ho hg hat hl6 hown ci fi
     go_wp2_with fail
     go_roundw
     case rel=>exact⟨k+1,_,by omega,by go_num,HP.out,HL2.out⟩
     case measure=>simp[intOf];omega
  ·obtain rfl:k=fl.length:=by omega
   clear hR hl hll
   have HFl:Hid (∀x,x∈fl→x∈l):=hid (fun x hx=>by
    obtain⟨i,hi,e⟩:=List.getElem_of_mem hx
    have h1:=HL.out i hi
    have:nth fl i=x:=by rw[←e];unfold nth;simp[List.getD,hi]
    rw[←this];exact h1)
   go_wp2_with fail
   go_loopw [6,9] (fun tv i wr=>∃(k:Nat) (l:List Int),k≤l.length∧i=.int .i64 (k:Int)∧JB w0 c D fl q tv l wr∧(∀x,x∈fl→x∈l)∧∀j,j<k→QB D l (nth l j)) (fun _ i _=>c.N+1-(intOf i).toNat)
   case atStart=>exact⟨0,l,Nat.zero_le _,rfl,HR.out,HFl.out,fun j hj=>by omega⟩
   case round=>
    obtain⟨k,l2,hk,rfl,hR,hin,hdn⟩:=hrel
    have HR2:=hid hR
    have HIn:=hid hin
    have HDn:=hid hdn
    have hll:l2.length≤c.N:=nS _ _ hR.nd (fun x hx=>by
     obtain⟨t,ht⟩:=hR.fd x hx
     obtain⟨j,rfl,h1,h2⟩:=HS.out.xJ ht
     omega)
    obtain⟨⟨o2,cap2,rfl⟩,_⟩:=yY hR.td
    by_cases hlt:k<l2.length
    ·obtain⟨g2,cap3,hv2,hc2,_⟩:=Ao hR.td (k:=k) (y:=.int .i64 (nth l2 k)) (by rw[List.getElem?_map];unfold nth;simp[List.getD,hlt])
     obtain⟨rfl,rfl⟩:o2=some ⟨g2,0,none⟩∧cap2=cap3:=by
      injection hv2 with e1 _ e2
      exact⟨e1,e2⟩
     obtain⟨t,ht⟩:=hR.fd _ (Af hlt)
     have HSe:=hid (MS HSa.out ht (HS.out.later hR.below))
     have HT:=hid ht
     have HPl:=hid ((HS.out.sizes) t (find_live ht).1)
     generalize hxk:nth l2 k=x at*
     have HXk:=hid hxk
     clear hR hin hdn hxk ht hv2
     go_wp2_with fail
     refine HSe.out.mono ?_
     rintro e w4 ⟨a1,c1,a2,n2,c2,rfl,r1,f1,hb4⟩
     have HB4:=hid hb4
     have hbx:=Blk.new w4 #[.slice a1 t.pt.length c1,.slice a2 n2 c2] 57
     have q0:=hbx.cell 0 rfl
     have q1:=hbx.cell 1 rfl
     have HRp:=hid (r1.later (below_new w4 (.cells #[.slice a1 t.pt.length c1,.slice a2 n2 c2] 57)))
     have HF1:Hid (∀b off,a1=some ⟨b,off,none⟩→q<b∧b≠g2∧b<(w4.alloc (.cells #[.slice a1 t.pt.length c1,.slice a2 n2 c2] 57)).heap.size):=hid (fun b off e=>by
      have h1:=f1 b off e
      have h2:=HR2.out.is.lt
      have h3:=PN HR2.out.td g2 rfl
      simp
      omega)
     have hb5:=below_step hb4 (below_new w4 (.cells #[.slice a1 t.pt.length c1,.slice a2 n2 c2] 57))
     have HR5:Hid (JB w0 c D fl q (.slice (some ⟨g2,0,none⟩) l2.length cap2) l2 (w4.alloc (.cells #[.slice a1 t.pt.length c1,.slice a2 n2 c2] 57))):=hid ⟨HR2.out.is.later hb5,dx HR2.out.td hb5,below_step HR2.out.below hb5,HR2.out.q,HR2.out.nd,HR2.out.fd,HR2.out.all⟩
     clear hb4 hbx r1 f1 hb5 hc2
     have hpl:=HPl.out
     go_wp2_with fail
     generalize hw5:w4.alloc _=w5 at*
     clear hw5 q0 q1
     go_loopw [6,58] (fun tv i wr=>∃(j:Nat) (m:List Int),j≤t.pt.length∧i=.int .i64 (j:Int)∧JB w0 c D fl q tv (l2++m) wr∧Row wr .i64 a1 t.pt∧(∀b off,a1=some ⟨b,off,none⟩→q<b∧tv.ownBlock≠some b∧b<wr.heap.size)∧∀i,i<j→nth t.pt i≠0→nth t.pt i∈l2++m) (fun _ i _=>t.pt.length-(intOf i).toNat)
     case atStart=>exact⟨0,[],Nat.zero_le _,rfl,by rw[List.append_nil];exact HR5.out,HRp.out,fun b off e=>by
      obtain⟨k1,k2,k3⟩:=HF1.out b off e
      exact⟨k1,fun e2=>k2 (Option.some.inj e2).symm,k3⟩,fun i hi=>by omega⟩
     case round=>
      obtain⟨j,m,hj,rfl,hR,hrw,hfr,hdn⟩:=hrel
      have HR6:=hid hR
      have HDn6:=hid hdn
      have HFr:=hid hfr
      have HRw:=hid hrw
      have hll2:(l2++m).length≤c.N:=nS _ _ hR.nd (fun x hx=>by
       obtain⟨t,ht⟩:=hR.fd x hx
       obtain⟨j,rfl,h1,h2⟩:=HS.out.xJ ht
       omega)
      by_cases hlt3:j<t.pt.length
      ·obtain⟨bp,op,rfl,hbp,hcp⟩:=hrw j hlt3
       rcases HNm.out.good t (find_live HT.out).1 j hlt3 with h0|⟨u,hu,hue⟩
       ·rw[h0] at hcp
        have HDn7:Hid (∀i,i<j+1→nth t.pt i≠0→nth t.pt i∈l2++m):=hid (fun i hi hn=>by
         by_cases e:i=j
         ·rw[e] at hn;exact absurd h0 hn
         ·exact HDn6.out i (by omega) hn)
        clear hR hrw hfr hdn h0
        go_wp2_with fail
        go_roundw
        case rel=>exact⟨j+1,m,by omega,by go_num,HR6.out,HRw.out,HFr.out,HDn7.out⟩
        case measure=>simp[intOf];omega
       ·have hfu:D.find (nth t.pt j)=some u:=by rw[←hue];exact HSa.out.findIt hu
        obtain⟨y,hy,hy1,hyN⟩:=HS.out.xJ hfu
        have hyl:y<c.N+1:=by omega
        have hy0:(0:Int)<(y:Int):=by omega
        rw[hy] at hcp
        have ci:=hR.is.arr hyl
        have fi:=hR.is.free y
        have hqz:=hR.is.lt
        by_cases hin:(y:Int)∈l2++m
        ·rw[decide_eq_true hin] at ci
         have HDn7:Hid (∀i,i<j+1→nth t.pt i≠0→nth t.pt i∈l2++m):=hid (fun i hi hn=>by
          by_cases e:i=j
          ·rw[e,hy];exact hin
          ·exact HDn6.out i (by omega) hn)
         clear hR hrw hfr hdn hfu hy hin hue hu
         go_wp2_with fail
         go_roundw
         case rel=>exact⟨j+1,m,by omega,by go_num,HR6.out,HRw.out,HFr.out,HDn7.out⟩
         case measure=>simp[intOf];omega
        ·rw[decide_eq_false hin] at ci
         obtain⟨l3,hl3⟩:∃l3,l3=l2++m:=⟨_,rfl⟩
         have hR3:=hR
         rw[←hl3] at hR3
         have hll3:l3.length≤c.N:=by rw[hl3];exact hll2
         have HX:Hid ((y:Int)∉l3∧nth t.pt j=(y:Int)∧∃t,D.find (y:Int)=some t):=hid ⟨by rw[hl3];exact hin,hy,u,hy▸hfu⟩
         have hown:=hR3.QV y
         have hxl:x∈l2:=HXk.out▸Af hlt
         have HJ:Hid (∀R:Int→Prop,JE D R→(∀z,z∈fl→R z)→(∀z,z∈l3→R z)→R (y:Int)):=hid (fun R hC _ hl=>by
          have:=hC x t (hl x (by rw[hl3];exact List.mem_append_left _ hxl)) HT.out j hlt3 (by omega)
          rw[hy] at this
          exact this)
         have HR63:=hid hR3
         have HL3:=hid hl3
         clear hR hrw hfr hdn hfu hy hin hue hu hxl hR3 hl3 hll2
         go_wp2_with (at_builtin;refine wpList_append_lies _ rfl _ _ 45 rfl (q+1) 3 i0 (.int .i64 0) 1 8 Tryz.underlying45 hinf hz0 hz1 hz2 rfl (by decide) _ _ _ rfl (hown.alloc _) ⟨wr.heap.size,0,none⟩ 1 1 [.int .i64 (y:Int)] rfl rfl ?c1 ?c2 (by decide) ?c3 ?c4 ?c5 (wr.heap.size+1) (by simp) ?c6)
         case c1=>
          intro j2 z hz
          have:=cell_one_new (wr.setCell ⟨q,y,none⟩ (.bool true)) (.int .i64 (y:Int)) 3 j2 z hz
          rwa[show(wr.setCell ⟨q,y,none⟩ (.bool true)).heap.size=wr.heap.size by simp] at this
         case c2=>intro z hz;simp at hz;subst hz;rfl
         case c3=>unfold maxLen;omega
         case c4=>omega
         case c5=>simp;omega
         case c6=>
          intro g cap6 w6 ho hg hat hl6
          obtain⟨hp,hT⟩:=HR63.out.push (x:=(y:Int)) rfl HX.out.1 HX.out.2.2 HJ.out ho hg
          rw[show l3++[(y:Int)]=l2++(m++[(y:Int)]) by rw[HL3.out,List.append_assoc]] at hp
          have HP:=hid hp
          have HRw7:Hid (Row w6 .i64 (some ⟨bp,op,none⟩) t.pt):=hid (HRw.out.touch hT (fun _ b off e hx=>by
           obtain⟨k1,k2,k3⟩:=HFr.out b off e
           rcases hx with hx|hx
           ·omega
           ·exact k2 hx))
          have HFr7:Hid (∀b off,(some ⟨bp,op,none⟩:Option Addr)=some ⟨b,off,none⟩→q<b∧(Value.slice (some ⟨g,0,none⟩) (l3.length+1) cap6).ownBlock≠some b∧b<w6.heap.size):=hid (fun b off e=>by
           obtain⟨k1,k2,k3⟩:=HFr.out b off e
           refine⟨k1,fun e2=> ?_,Nat.lt_of_lt_of_le k3 hT.size⟩
           have e3:g=b:=Option.some.inj e2
           rcases hat with e4|e4
           ·exact k2 (e3▸e4)
           ·have e5:g=wr.heap.size+1:=by first|exact e4|(rw[e4];simp)
            omega)
          have HDn7:Hid (∀i,i<j+1→nth t.pt i≠0→nth t.pt i∈l2++(m++[(y:Int)])):=hid (fun i hi hn=>by
           rw[←List.append_assoc,List.mem_append,List.mem_singleton]
           by_cases e:i=j
           ·rw[e];exact .inr HX.out.2.1
           ·exact .inl (HDn6.out i (by omega) hn))
          clear hp hT ho hg hat hl6 hown ci fi hcp
          go_wp2_with fail
          go_roundw
          case rel=>exact⟨j+1,m++[(y:Int)],by omega,by go_num,HP.out,HRw7.out,HFr7.out,HDn7.out⟩
          case measure=>simp[intOf];omega
      ·obtain rfl:j=t.pt.length:=by omega
       have HEnd:Hid (k+1≤(l2++m).length∧(∀x,x∈fl→x∈l2++m)∧∀i,i<k+1→QB D (l2++m) (nth (l2++m) i)):=hid ⟨by rw[List.length_append];omega,fun x hx=>List.mem_append_left _ (HIn.out x hx),fun i hi=>by
        by_cases e:i=k
        ·rw[e,GK hlt,HXk.out]
         intro t2 ht2 i2 hi2 hn2
         rw[HT.out] at ht2
         cases ht2
         exact HDn6.out i2 hi2 hn2
        ·rw[GK (by omega)]
         exact(HDn.out i (by omega)).more m⟩
       clear hR hrw hfr hdn
       go_wp2_with fail
       go_roundw
       case rel=>exact⟨k+1,l2++m,HEnd.out.1,by go_num,HR6.out,HEnd.out.2.1,HEnd.out.2.2⟩
       case measure=>simp[intOf];omega
    ·obtain rfl:k=l2.length:=by omega
     have HMk:Hid (Mx D fl (fun x=>decide (x∈l2)=true)):=hid ⟨fun x hx=>decide_eq_true (HIn.out x hx),fun x t hx ht i hi hn=>decide_eq_true (by
      have hx:=of_decide_eq_true hx
      obtain⟨b,hb,e⟩:=List.getElem_of_mem hx
      have:nth l2 b=x:=by rw[←e];unfold nth;simp[List.getD,hb]
      exact HDn.out b hb t (this.symm▸ht) i hi hn),fun R hC hR x hx=>HR2.out.all R hC hR x (of_decide_eq_true hx)⟩
     clear hR hin hdn
     go_wp2_with fail
     go_ret
     exact⟨q,fun x=>decide (x∈l2),rfl,HR2.out.q,HR2.out.is,HR2.out.below,HMk.out⟩
def Sa(D:Wd)(x:Int):Prop:=∃t,D.find x=some t∧t.mr.dead=false∧t.mr.color=D.parity
def Out(hold:Nat→Nat)(D:Wd):Prop:=∀h:Nat,(∀t,t∈D.live→t.h≠h)→hold h=0
theorem pR{y:Int}:∀{l:List Int} {i:Nat},i<l.length→nth l i=y→0<dN y l
 |[],i,h,_=>by simp at h
 |a::l,0,_,h=>by
  have e:a=y:=h
  unfold dN
  rw[if_pos e]
  omega
 |a::l,i+1,h,e=>by
  have:=pR (l:=l) (i:=i) (by simpa using h) e
  unfold dN
  omega
section
variable {D D':Wd} {t u:Th} {hold:Nat→Nat} {l fl:List Int}
theorem zY(S:San D)(N:fP hold D)(O:Out hold D){b:Nat}(h:0<hold b):∃t,D.find ((b:Int)+1)=some t∧t.mr.dead=false∧t∈D.live∧t.h=b:=by
 have h1:∃t,t∈D.live∧t.h=b:=by
  refine Classical.byContradiction fun hn=> ?_
  have:=O b (fun t ht e=>hn ⟨t,ht,e⟩)
  omega
 obtain⟨t,ht,rfl⟩:=h1
 refine⟨t,S.findIt ht,?_,ht,rfl⟩
 cases hd:t.mr.dead with
 |false=>rfl
 |true=>
  have h2:=N.zer t ht hd
  have h3:=N.cnt t ht
  omega
theorem Ld(S:San D)(N:fP hold D)(ht:t∈D.live){i:Nat}(hi:i<t.pt.length)(hn:nth t.pt i≠0):∃u,D.find (nth t.pt i)=some u∧u.mr.dead=false∧u∈D.live∧(u.h:Int)+1=nth t.pt i:=by
 rcases N.good t ht i hi with h|⟨u,hu,he⟩
 ·exact absurd h hn
 ·refine⟨u,by rw[←he];exact S.findIt hu,?_,hu,he⟩
  cases hd:u.mr.dead with
  |false=>rfl
  |true=>
   have h2:=N.zer u hu hd
   have h3:=N.cnt u hu
   have h4:fI ((u.h:Int)+1) t≤au (fI ((u.h:Int)+1)) D.ts:=rz (φ:=fI ((u.h:Int)+1)) ht
   have h5:0<fI ((u.h:Int)+1) t:=pR hi he.symm
   omega
theorem JW{N:Nat}(S:San D)(Nm:fP hold D)(T:FM hold D)(O:Out hold D)(h1:D.phase=2)(hn:D.n=N)(hb:D.bu=false)(hlt:∀t,t∈D.live→t.h<N)(m:Int→Prop)(hm:Mx D fl m)(hf:∀x,x∈fl→∃b:Nat,x=(b:Int)+1∧0<hold b):∀x,m x→Sa D x:=by
 obtain⟨e1,e2⟩:=T.Kq h1 hn hb hlt
 refine hm.2.2 (Sa D) ?_ ?_
 ·rintro x t ⟨t',ht',hd,hc⟩ ht i hi hi0
  rw[ht] at ht'
  cases ht'
  obtain⟨htl,_⟩:=find_live ht
  obtain⟨u,hu,hud,hul,hue⟩:=Ld S Nm htl hi hi0
  rcases e2 t htl hd hc i hi u hul hue with h|h
  ·rw[hud] at h
   cases h
  ·exact⟨u,hu,hud,h⟩
 ·intro x hx
  obtain⟨b,rfl,hb⟩:=hf x hx
  obtain⟨t,ht,hd,htl,rfl⟩:=zY S Nm O hb
  exact⟨t,ht,hd,e1 t htl hd hb⟩
end
def hN(hold:Nat→Nat)(i:Nat):Nat:=if i=0 then 0 else hold (i-1)
section
variable {w wr w':World} {p:Pl} {c:Cf} {q k:Nat} {D D':Wd} {hold hold':Nat→Nat} {ph:Int} {t u:Th} {r x y i:Int}
theorem fP.tally(N:fP hold D)(S:San D):fP hold D.tally:=by
 unfold Wd.tally
 split
 ·unfold Wd.dV
  split
  ·exact N.ts rfl
  ·split
   ·exact N.ts rfl
   ·split
    ·exact(N.mark S _ (f:=fun m=>{m with shade:=D.parity,shadow:=D.dP (nth _ D.field.toNat)+1}) (fun _=>rfl) (fun _=>rfl)).ts rfl
    ·exact(N.mark S _ (f:=fun m=>{m with count:=D.parity}) (fun _=>rfl) (fun _=>rfl)).ts rfl
 ·exact N
theorem di.tally(P:di x D)(S:San D):di x D.tally:=by
 unfold Wd.tally
 split
 ·unfold Wd.dV
  split
  ·exact P.ts rfl
  ·split
   ·exact P.ts rfl
   ·split
    ·exact(P.mark S _ (f:=fun m=>{m with shade:=D.parity,shadow:=D.dP (nth _ D.field.toNat)+1}) (fun _=>rfl) (fun _ h=>h)).ts rfl
    ·exact(P.mark S _ (f:=fun m=>{m with count:=D.parity}) (fun _=>rfl) (fun _ h=>h)).ts rfl
 ·exact P
end
section
variable {w wr:World} {p:Pl} {c:Cf} {q k:Nat} {D:Wd} {hold:Nat→Nat} {ph:Int}
end
section
variable {D D':Wd} {t u:Th} {r x:Int} {hold:Nat→Nat} {k:Nat} {c:Cf}
theorem kX{P:Wd→Prop}(S:San D)(h0:P D)(hm:∀D r,San D→P D→P (D.settle r))(ht:∀D r,San D→P D→P (D.touch r))(hn:∀D D',P D→D'.ts=D.ts→(∀b,b∈D'.ring→b∈D.ring)→D'.clean=D.clean→D'.grave=D.grave→D'.pending=D.pending→D'.w=D.w→D'.n=D.n→P D'):P D.aT:=by
 unfold Wd.aT
 split
 ·split
  ·split
   ·rename_i b rest hr
    exact hn D _ h0 rfl (fun c hc=>by rw[hr];exact List.mem_cons_of_mem _ hc) rfl rfl rfl rfl rfl
   ·refine hn (D.bI (D.cursor+1) (D.find (D.cursor+1))) D.Ac ?_ rfl (fun _ h=>h) rfl rfl rfl rfl rfl
    unfold Wd.bI
    split
    ·exact h0
    ·split
     ·exact h0
     ·split
      ·exact ht _ _ (S.settle _) (hm _ _ S h0)
      ·exact hm _ _ S h0
  ·unfold Wd.jr
   split
   ·exact hn D _ h0 rfl (fun _ h=>h) rfl rfl rfl rfl rfl
   ·split
    ·exact hn _ _ (ht _ _ S h0) rfl (fun _ h=>h) rfl rfl rfl rfl rfl
    ·exact hn D _ h0 rfl (fun _ h=>h) rfl rfl rfl rfl rfl
 ·exact h0
theorem fP.aT(N:fP hold D)(S:San D):fP hold D.aT:=
 kX (P:=fP hold) S N (fun D r S N=>N.mark S r (f:=fun m=>{m with shade:=D.parity,shadow:=D.dP r}) (fun _=>rfl) (fun _=>rfl)) (fun D r S N=>N.touch S r) (fun D D' N h _ _ _ _ _ _=>N.ts h)
theorem di.aT(N:di x D)(S:San D):di x D.aT:=
 kX (P:=di x) S N (fun D r S N=>N.mark S r (f:=fun m=>{m with shade:=D.parity,shadow:=D.dP r}) (fun _=>rfl) (fun _ h=>h)) (fun D r S N=>N.touch S r) (fun D D' N h _ _ _ _ _ _=>N.ts h)
theorem Ky(S:San D):D.aT.ts.map Th.h=D.ts.map Th.h:=
 kX (P:=fun E=>E.ts.map Th.h=D.ts.map Th.h) S rfl (fun E r _ h=>(dI (D:=E) r (fun m=>{m with shade:=E.parity,shadow:=E.dP r})).trans h) (fun E r _ h=>(wP r).trans h) (fun E E' h e _ _ _ _ _ _=>by rw[e];exact h)
end
theorem wW{g:Th→Th}{r:Int}{s:Th}:∀{l:List Th},s∈bz r g l→s∈l∨∃t,aP r l=some t∧s=g t
 |[],h=>by simp[bz] at h
 |u::l,h=>by
  unfold bz at h
  unfold aP
  cases hu:u.at r with
  |true=>
   rw[hu] at h
   simp only[if_true] at h ⊢
   rcases List.mem_cons.1 h with rfl|h
   ·exact .inr ⟨u,rfl,rfl⟩
   ·exact .inl (List.mem_cons_of_mem _ h)
  |false=>
   rw[hu] at h
   simp only[Bool.false_eq_true,if_false] at h ⊢
   rcases List.mem_cons.1 h with rfl|h
   ·exact .inl (List.mem_cons_self ..)
   ·rcases wW h with h|h
    ·exact .inl (List.mem_cons_of_mem _ h)
    ·exact .inr h
def Si(D:Wd):Prop:=∀t,t∈D.ts→t.ended=false∧(t.mr.dead=true→t.mr.leaves=(t.lv.length:Int))
structure nA (L:List Int) (D:Wd):Prop where
 san:San D
 nd:(D.ts.map Th.h).Nodup
 refs:D.dw=L
 dy:eP D
 fl:Si D
section
variable {L:List Int} {D D':Wd} {t:Th} {w wr:World} {p:Pl} {N k:Nat}
theorem ow.RI(G:ow N D k)(h:eP D):nA D.dw D:=⟨G.san,G.nd,rfl,h,fun t ht=>⟨G.all t ht,fun hd=>by
 have:=G.alive (bH.2 ⟨ht,G.all t ht⟩)
 rw[this] at hd
 cases hd⟩⟩
theorem nA.inter(F:nA L D)(x:Int):nA L (D.inter x):=by
 refine⟨F.san.inter x,by rw[qA];exact F.nd,(qX (qA x)).trans F.refs,?_,?_⟩
 ·unfold Wd.inter
  split
  ·unfold Wd.bury
   split
   ·exact F.dy
   ·split
    ·exact F.dy
    ·rename_i t _ _
     exact⟨F.dy.1,by rw[gI];exact iP (P:=fun t=>t.mr.count=0∧t.mr.shade=0) (g:=fun s=>{s with mr:={s.mr with dead:=true,left:=(t.pt.length:Int),leaves:=(t.lv.length:Int)}}) (fun t ht=>ht) x F.dy.2⟩
  ·exact F.dy
 ·unfold Wd.inter
  split
  ·unfold Wd.bury
   split
   ·exact F.fl
   ·split
    ·exact F.fl
    ·rename_i t hf _
     intro s hs
     rw[gI] at hs
     rcases wW hs with hs|⟨u,hu,rfl⟩
     ·exact F.fl s hs
     ·have e:u=t:=Option.some.inj (hu.symm.trans hf)
      subst e
      exact⟨(F.fl u (iw hu)).1,fun _=>rfl⟩
  ·exact F.fl
theorem nA.len(F:nA L D)(hw:D.w=16):au (fun t=>t.pt.length) D.ts≤15*au occT D.ts:=mG 15 (fun t ht=>by
 have hm:=(bH.1 ht).1
 have hg:=(F.san.ok t ht).ql
 have ho:occT t=1+t.lv.length:=by
  unfold occT
  split
  ·rename_i hd
   rw[(F.fl t hm).2 hd]
   simp
  ·rfl
 rw[hw] at hg
 rw[ho]
 by_cases h:t.pt.length+t.dt.length≤16-8
 ·omega
 ·have:=(hg.big h).2
  omega)
theorem nA.find(F:nA L D){j:Nat}(hj:j<L.length):∃t,D.find (nth L j)=some t:=by
 have hr:=F.refs
 subst hr
 have hj2:j<D.ts.length:=by unfold Wd.dw at hj;simpa using hj
 have e:nth D.dw j=(D.ts[j].h:Int)+1:=by
  unfold nth Wd.dw
  rw[List.getD_eq_getElem?_getD]
  simp[hj2]
 have h:=zJ (l:=D.ts) F.nd (List.getElem_mem hj2)
 rw[(F.fl _ (List.getElem_mem hj2)).1] at h
 rw[e]
 exact⟨_,h⟩
theorem nA.ci(F:nA L D)(h:RSt w p (cfR N) D wr):CI N 0 0 0 (D.turn.begin 1):=by
 have hl:=F.len h.w16
 have ht:=h.total F.san
 have hc:(cfR N).N=N:=rfl
 rw[hc] at ht
 have hn:D.n=N:=by
  obtain⟨zs,m,_,hR,_⟩:=h
  exact hR.n
 have hlt:∀t,t∈D.live→t.h<N:=fun t ht=>by
  obtain⟨zs,m,_,hR,_⟩:=h
  exact hR.hlt ht
 have hp:(D.turn.begin 1).parity=1:=by
  show 1-D.parity=1
  rw[F.dy.1]
  rfl
 have hz:∀u,uY 0 0 u=0:=fun u=>by
  unfold uY
  rw[if_neg (by omega)]
  split<;>rfl
 refine⟨F.san.same_but rfl rfl rfl rfl (fun b hb=>.inl hb),rfl,rfl,rfl,hn,Nat.zero_le _,fun t ht=> ?_,.inl rfl,fun q t hq=> ?_,?_,hlt,?_⟩
 ·rw[hp,(F.dy.2 t (bH.1 ht).1).1]
  exact⟨fun h=>absurd h (by decide),fun h=>absurd h (Nat.not_lt_zero _)⟩
 ·rw[F.dy.dP hp rfl q,jN (φ:=Ev q 0 0) (fun u _=>by unfold Ev;rw[hz u];rfl)]
  rfl
 ·rw[jN (φ:=uY 0 0) (fun u _=>hz u)]
 ·show N+au (fun t=>t.pt.length) D.ts≤_
  omega
end
def Qy(t:Th):Nat × List Int × Bool × Int:=(t.h,t.pt,t.mr.dead,t.mr.refs)
def Pt(D D':Wd):Prop:=∀q,(D'.find q).map Qy=(D.find q).map Qy
structure BK (m:Int→Prop) (D:Wd):Prop where
 col:∀x t,D.find x=some t→t.mr.color=D.parity→m x
 ring:∀b,b∈D.ring→m ((b:Int)+1)
 scan:D.scan≠0→m D.scan
section
variable {D D' D2:Wd} {t u v:Th} {r x y q:Int} {hold:Nat→Nat} {l fl:List Int} {m:Int→Prop} {N:Nat}
theorem Pt.refl(D:Wd):Pt D D:=fun _=>rfl
theorem Pt.trans(h:Pt D D')(k:Pt D' D2):Pt D D2:=fun q=>(k q).trans (h q)
theorem Pt.symm(h:Pt D D'):Pt D' D:=fun q=>(h q).symm
theorem Pt.ts(h:D'.ts=D.ts):Pt D D':=fun q=>by unfold Wd.find;rw[h]
theorem Pt.mark(D:Wd)(r:Int){f:Mrk→Mrk}(h1:∀m,(f m).dead=m.dead)(h2:∀m,(f m).refs=m.refs):Pt D (D.mark r f):=fun q=>by
 rw[find_mark]
 cases D.find q with
 |none=>rfl
 |some t=>
  simp only[Option.map_some]
  split
  ·unfold Qy
   simp only[h1,h2]
  ·rfl
theorem Pt.touch(D:Wd)(r:Int):Pt D (D.touch r):=by
 rcases iO (D:=D) r with h|h
 ·exact Pt.ts h
 ·exact(Pt.mark D r (f:=fun m=>{m with color:=D.parity}) (fun _=>rfl) (fun _=>rfl)).trans (Pt.ts h)
theorem Pt.tally(D:Wd):Pt D D.tally:=by
 unfold Wd.tally
 split
 ·unfold Wd.dV
  split
  ·exact Pt.ts rfl
  ·split
   ·exact Pt.ts rfl
   ·split
    ·exact(Pt.mark D _ (f:=fun m=>{m with shade:=D.parity,shadow:=D.dP _+1}) (fun _=>rfl) (fun _=>rfl)).trans (Pt.ts rfl)
    ·exact(Pt.mark D _ (f:=fun m=>{m with count:=D.parity}) (fun _=>rfl) (fun _=>rfl)).trans (Pt.ts rfl)
 ·exact Pt.refl D
theorem Pt.aT(S:San D):Pt D D.aT:=
 kX (P:=Pt D) S (Pt.refl D) (fun E r _ h=>h.trans (Pt.mark E r (f:=fun m=>{m with shade:=E.parity,shadow:=E.dP r}) (fun _=>rfl) (fun _=>rfl))) (fun E r _ h=>h.trans (Pt.touch E r)) (fun E E' h e _ _ _ _ _ _=>h.trans (Pt.ts e))
theorem Pt.some(h:Pt D D')(hf:D.find q=some t):∃t',D'.find q=some t'∧t'.h=t.h∧t'.pt=t.pt∧t'.mr.dead=t.mr.dead∧t'.mr.refs=t.mr.refs:=by
 have h1:=h q
 rw[hf] at h1
 cases hq:D'.find q with
 |none=>rw[hq] at h1;cases h1
 |some t'=>
  rw[hq] at h1
  have h2:Qy t'=Qy t:=Option.some.inj h1
  unfold Qy at h2
  injection h2 with e1 h2
  injection h2 with e2 h2
  injection h2 with e3 e4
  exact⟨t',rfl,e1,e2,e3,e4⟩
theorem Pt.live(h:Pt D D')(S:San D)(ht:t∈D.live):∃t',t'∈D'.live∧t'.h=t.h:=by
 obtain⟨t',h1,h2,_⟩:=h.some (S.findIt ht)
 exact⟨t',(find_live h1).1,h2⟩
theorem JE.pt(C:JE D m)(h:Pt D D'):JE D' m:=fun x t' hx hf i hi hn=>by
 obtain⟨t,ht,_,e2,_⟩:=h.symm.some hf
 rw[←e2] at hi hn ⊢
 exact C x t hx ht i hi hn
theorem Mx.pt(M:Mx D fl m)(h:Pt D D'):Mx D' fl m:=⟨M.1,M.2.1.pt h,fun R C hf x hx=>M.2.2 R (C.pt h.symm) hf x hx⟩
theorem Out.pt(O:Out hold D)(S:San D)(h:Pt D D'):Out hold D':=fun b hb=>O b (fun t ht e=>by
 obtain⟨t',h1,h2⟩:=h.live S ht
 exact hb t' h1 (h2.trans e))
theorem Gn(hf:D.find x=some v)(ha:v.at r=true):x=r:=by
 have:=(find_live hf).2
 unfold Th.at at ha
 simp at ha
 omega
theorem BK.mark(B:BK m D)(r:Int){f:Mrk→Mrk}(hc:∀m,(f m).color=m.color):BK m (D.mark r f):=⟨fun x u hu h=>by
 rw[find_mark] at hu
 cases hx:D.find x with
 |none=>rw[hx] at hu;cases hu
 |some v=>
  rw[hx] at hu
  simp only[Option.map_some] at hu
  refine B.col x v hx ?_
  split at hu
  ·cases hu
   rw[←hc]
   exact h
  ·cases hu
   exact h,B.ring,B.scan⟩
theorem BK.touch(B:BK m D)(hr:∀t,D.find r=some t→m r):BK m (D.touch r):=by
 cases ht:D.toucht r with
 |false=>rw[show D.touch r=D by unfold Wd.touch;rw[ht];rfl];exact B
 |true=>
  cases hf:D.find r with
  |none=>unfold Wd.toucht at ht;rw[hf] at ht;cases ht
  |some t=>
   have hm:=hr t hf
   have er:=(find_live hf).2
   have e:D.touch r={D.paint r with ring:=if hasB (ints D.ring) (r-1) then D.ring else D.ring++[(r-1).toNat]}:=by unfold Wd.touch;rw[ht];rfl
   rw[e]
   refine⟨fun x u hu hc=> ?_,fun b hb=> ?_,B.scan⟩
   ·have hu:(D.mark r (fun m=>{m with color:=D.parity})).find x=some u:=hu
    by_cases hxr:x=r
    ·rw[hxr]
     exact hm
    ·rw[find_mark] at hu
     cases hx:D.find x with
     |none=>rw[hx] at hu;cases hu
     |some v=>
      rw[hx] at hu
      simp only[Option.map_some] at hu
      rw[if_neg (fun ha=>hxr (Gn hx ha))] at hu
      cases hu
      exact B.col x _ hx hc
   ·have hb:b∈(if hasB (ints D.ring) (r-1) then D.ring else D.ring++[(r-1).toNat]):=hb
    split at hb
    ·exact B.ring b hb
    ·rw[List.mem_append,List.mem_singleton] at hb
     rcases hb with hb|rfl
     ·exact B.ring b hb
     ·rw[show(((r-1).toNat:Nat):Int)+1=r by omega]
      exact hm
theorem BK.aT(F:FL hold D)(S:San D)(Nm:fP hold D)(C:JE D m)(H:∀b:Nat,0<hold b→m ((b:Int)+1))(B:BK m D):BK m D.aT:=by
 unfold Wd.aT
 split
 ·split
  ·split
   ·rename_i b rest hr
    exact⟨B.col,fun c hc=>B.ring c (by rw[hr];exact List.mem_cons_of_mem _ hc),fun _=>B.ring b (by rw[hr];exact List.mem_cons_self ..)⟩
   ·have key:BK m (D.bI (D.cursor+1) (D.find (D.cursor+1))):=by
     cases hf:D.find (D.cursor+1) with
     |none=>exact B
     |some t=>
      have hs:BK m (D.settle (D.cursor+1)):=B.mark (D.cursor+1) (f:=fun m=>{m with shade:=D.parity,shadow:=D.dP (D.cursor+1)}) (fun _=>rfl)
      unfold Wd.bI
      simp only
      split
      ·exact B
      ·rename_i hd
       split
       ·rename_i hlt
        refine hs.touch (fun _ _=> ?_)
        obtain⟨htl,er⟩:=find_live hf
        by_cases hc:t.mr.color=D.parity
        ·exact B.col _ t hf hc
        ·have hsum:au (D.ph ((t.h:Int)+1)) D.ts=au (fI ((t.h:Int)+1)) D.ts:=dU (fun v hv=>by
          show kU D.parity D.cursor D.field _ v=_
          unfold kU Gs fI
          rw[if_pos (F.al v hv),List.take_length])
         have hcnt:=Nm.cnt t htl
         have hsv:=F.ho.sh t htl (fun h=>h) (by cases h:t.mr.dead;rfl;exact absurd h hd) hc
         have hsh:=AP S htl
         rw[er] at hsh
         rw[hsh,hsv,hsum,hcnt] at hlt
         rw[←er]
         exact H t.h (by omega)
       ·exact hs
    exact⟨key.col,key.ring,key.scan⟩
  ·rename_i hs
   unfold Wd.jr
   split
   ·exact⟨B.col,B.ring,fun h=>absurd rfl h⟩
   ·rename_i t hf
    split
    ·rename_i hff
     have h0:=F.sf
     have key:=B.touch (r:=nth t.pt D.scanF.toNat) (fun u hu=>C D.scan t (B.scan hs) hf D.scanF.toNat (by omega) (by have:=(find_live hu).2;omega))
     exact⟨key.col,key.ring,key.scan⟩
    ·exact⟨B.col,B.ring,fun h=>absurd rfl h⟩
 ·exact B
structure TQ (N:Nat) (hold:Nat→Nat) (D:Wd):Prop where
 ci:∃s h f,CI N s h f D
 fm:FM hold D
 nam:fP hold D
 out:Out hold D
 col:∀t,t∈D.ts→t.mr.color=0
 par:D.parity=1
 ring:D.ring=[]
 scan:D.scan=0
theorem FP:D.tally.ring=D.ring:=by
 unfold Wd.tally
 split
 ·unfold Wd.dV
  split
  ·rfl
  ·split
   ·rfl
   ·split<;>rfl
 ·rfl
theorem Jk(h:∀t,t∈D.ts→t.mr.color=0):∀t,t∈D.tally.ts→t.mr.color=0:=by
 unfold Wd.tally
 split
 ·unfold Wd.dV
  split
  ·exact h
  ·split
   ·exact h
   ·split
    ·exact iP (P:=fun t=>t.mr.color=0) (g:=fun t=>{t with mr:={t.mr with shade:=D.parity,shadow:=D.dP _+1}}) (fun t ht=>ht) _ h
    ·exact iP (P:=fun t=>t.mr.color=0) (g:=fun t=>{t with mr:={t.mr with count:=D.parity}}) (fun t ht=>ht) _ h
 ·exact h
theorem TQ.tally(T:TQ N hold D)(hb:D.bv=true):TQ N hold D.tally:=by
 obtain⟨s,h,f,I⟩:=T.ci
 have hk:h<N:=by
  have:=I.tb
  rw[hb] at this
  exact of_decide_eq_true this.symm
 obtain⟨h',f',I'⟩:=I.tally hk
 exact⟨⟨_,_,_,I'⟩,T.fm.tally I.san (by rw[I.fi];omega),T.nam.tally I.san,T.out.pt I.san (Pt.tally D),Jk T.col,uj.2.trans T.par,FP.trans T.ring,wK.trans T.scan⟩
theorem TQ.runN(T:TQ N hold D):∀n,(∀j,j<n→(ak j D).bv=true)→TQ N hold (ak n D)∧Pt D (ak n D)
 |0,_=>⟨T,Pt.refl D⟩
 |n+1,h=>by
  obtain⟨h1,h2⟩:=T.runN n (fun j hj=>h j (by omega))
  exact⟨h1.tally (h n (by omega)),h2.trans (Pt.tally (ak n D))⟩
structure FQ (N:Nat) (hold:Nat→Nat) (m:Int→Prop) (D:Wd):Prop where
 san:San D
 fm:FM hold D
 nam:fP hold D
 out:Out hold D
 ph:D.phase=2
 n:D.n=N
 cu:0≤D.cursor
 hlt:∀t,t∈D.live→t.h<N
 clo:JE D m
 bk:BK m D
theorem FM.Sk(T:FM hold D)(h:D.phase=2):FL hold D:=by
 rcases T with⟨h1,_⟩|⟨h1,_⟩|⟨_,F⟩
 ·omega
 ·omega
 ·exact F
theorem yI:D.aT.n=D.n∧(D.aT.cursor=D.cursor∨D.aT.cursor=D.cursor+1):=by
 unfold Wd.aT
 split
 ·split
  ·split
   ·exact⟨rfl,.inl rfl⟩
   ·exact⟨(vN _ _).1,.inr rfl⟩
  ·unfold Wd.jr
   split
   ·exact⟨rfl,.inl rfl⟩
   ·split
    ·exact⟨(oq _).1,.inl (oq _).2.2⟩
    ·exact⟨rfl,.inl rfl⟩
 ·exact⟨rfl,.inl rfl⟩
theorem FQ.aT(Q:FQ N hold m D)(H:∀b:Nat,0<hold b→m ((b:Int)+1)):FQ N hold m D.aT:=by
 have P:=Pt.aT Q.san
 have hc:=(yI (D:=D)).2
 have:=Q.cu
 refine⟨Q.san.aT,Q.fm.aT Q.san Q.nam Q.cu,Q.nam.aT Q.san,Q.out.pt Q.san P,tJ.1.trans Q.ph,yI.1.trans Q.n,by omega,fun t ht=> ?_,Q.clo.pt P,BK.aT (Q.fm.Sk Q.ph) Q.san Q.nam Q.clo H Q.bk⟩
 obtain⟨t',h1,h2⟩:=P.symm.live Q.san.aT ht
 rw[←h2]
 exact Q.hlt t' h1
theorem FQ.runN(Q:FQ N hold m D)(H:∀b:Nat,0<hold b→m ((b:Int)+1)):∀n,FQ N hold m (aL n D)∧Pt D (aL n D)
 |0=>⟨Q,Pt.refl D⟩
 |n+1=>by
  obtain⟨h1,h2⟩:=Q.runN H n
  exact⟨h1.aT H,h2.trans (Pt.aT h1.san)⟩
theorem DL{φ:Th→Nat}:∀l:List Th,au (fun t=>φ t+2) l=au φ l+2*(aM l).length
 |[]=>rfl
 |u::l=>by
  rw[aV,aV,az,DL l]
  cases u.ended<;>simp<;>omega
theorem KM{l:List Th}(hn:(l.map Th.h).Nodup)(h:∀t,t∈l→t.h<N):l.length≤N:=by
 have:=nS N (l.map (fun t=>(t.h:Int)+1)) (by
  unfold List.Nodup at hn ⊢
  rw[List.pairwise_map] at hn ⊢
  exact hn.imp (fun h e=>h (by omega))) (fun x hx=>by
  obtain⟨t,ht,rfl⟩:=List.mem_map.1 hx
  have:=h t ht
  omega)
 simpa using this
theorem TQ.QW(T:TQ N hold D):xh (D.begin 2)≤18*N:=by
 obtain⟨s,h,f,I⟩:=T.ci
 have h1:au (whiteT (D.begin 2).parity) D.ts≤au (fun t=>t.pt.length+2) D.ts:=uP (fun t ht=>by unfold whiteT;split<;>omega)
 rw[DL] at h1
 have h2:(aM D.ts).length≤N:=KM (l:=D.live) I.san.nd I.hlt
 have h3:=I.bd
 have h4:xh (D.begin 2)=((D.n:Int)-0).toNat+(au (whiteT (D.begin 2).parity) D.ts+gT (D.begin 2) D.ring)+0:=rfl
 have h5:gT (D.begin 2) []=0:=rfl
 rw[h4,T.ring,h5,I.n]
 omega
theorem TQ.fin(T:TQ N hold D){m n:Nat}(hm:∀j,j<m→(ak j D).bv=true)(hmb:(ak m D).bv=false)(hnb:(aL n ((ak m D).begin 2)).bu=false)(hpot:n+xh (aL n ((ak m D).begin 2))≤xh ((ak m D).begin 2)){mk:Int→Prop}(M:Mx D fl mk)(hf1:∀x,x∈fl→∃b:Nat,x=(b:Int)+1∧0<hold b)(hf2:∀b:Nat,0<hold b→(b:Int)+1∈fl):
  n≤18*N∧(aL n ((ak m D).begin 2)).ring=[]∧Pt D (aL n ((ak m D).begin 2))∧∀x t,(aL n ((ak m D).begin 2)).find x=some t→t.mr.dead=false→(t.mr.color=(aL n ((ak m D).begin 2)).parity↔mk x):=by
 obtain⟨T2,P2⟩:=T.runN m hm
 have hp18:=T2.QW
 generalize hD2:ak m D=D2 at*
 obtain⟨s,h,f,I⟩:=T2.ci
 have H:∀b:Nat,0<hold b→mk ((b:Int)+1):=fun b hb=>M.1 _ (hf2 b hb)
 have Q0:FQ N hold mk (D2.begin 2):=⟨I.san.same_but rfl rfl rfl rfl (fun b hb=>.inl hb),T2.fm.Kb I.ph I.n hmb I.hlt,T2.nam.ts rfl,T2.out,rfl,I.n,Int.le_refl _,I.hlt,M.2.1.pt (P2.trans (Pt.ts rfl)),⟨fun x t hf hc=>by
  have h1:=T2.col t (iw hf)
  have h2:t.mr.color=D2.parity:=hc
  have h3:=T2.par
  omega,fun b hb=>by
  have hb:b∈D2.ring:=hb
  rw[T2.ring] at hb
  exact absurd hb (List.not_mem_nil),fun h=>absurd rfl h⟩⟩
 obtain⟨Q,P3⟩:=Q0.runN H n
 have P:Pt D (aL n (D2.begin 2)):=(P2.trans (Pt.ts (D':=D2.begin 2) rfl)).trans P3
 generalize aL n (D2.begin 2)=De at*
 have hend:=hnb
 unfold Wd.bu at hend
 rw[decide_eq_true Q.ph] at hend
 simp at hend
 refine⟨by omega,hend.1.2,P,fun x t hf hd=>⟨fun hc=>Q.bk.col x t hf hc,fun hx=> ?_⟩⟩
 obtain⟨t2,h1,h2,h3⟩:=JW Q.san Q.nam Q.fm Q.out Q.ph Q.n hnb Q.hlt mk (M.pt P) hf1 x hx
 rw[hf] at h1
 cases h1
 exact h3
end
theorem Qp{D:Wd}(h:D.phase=0)(r:Int):D.touch r=D:=by
 have:D.toucht r=false:=by
  unfold Wd.toucht
  rw[h]
  split<;>simp
 unfold Wd.touch
 rw[this]
 rfl
theorem QR{D:Wd}(h:D.phase=0)(r:Int):D.more r=D.up r:=by
 unfold Wd.more
 exact Qp (D:=D.up r) h r
def JM(D:Wd):Prop:=eP D∧(∀t,t∈D.ts→t.mr.color=0∧t.mr.shadow=0)∧D.phase=0∧D.ring=[]
structure FB (N:Nat) (L:List Int) (hold:Nat→Nat) (k:Nat) (D:Wd):Prop where
 fin:nA L D
 nam:fP hold D
 out:Out hold D
 col:∀t,t∈D.ts→t.mr.color=0
 ph:D.phase=0
 ring:D.ring=[]
 pi:PInv (cfR N) k D
section
variable {D D':Wd} {t u:Th} {r x y:Int} {hold:Nat→Nat} {L:List Int} {N k:Nat}
theorem JM.new(n w:Nat):JM (Wd.new n w):=⟨eP.new _ _,fun t ht=>by simp[Wd.new] at ht,rfl,rfl⟩
theorem JM.tie(h:JM D)(r:Int)(i:Nat)(x:Int):JM ((D.setP r i x).up x):=
 ⟨h.1.tie r i x,iP (P:=fun t=>t.mr.color=0∧t.mr.shadow=0) (g:=fun t=>{t with mr:={t.mr with refs:=t.mr.refs+1}}) (fun t ht=>ht) x (iP (P:=fun t=>t.mr.color=0∧t.mr.shadow=0) (g:=fun t=>{t with pt:=t.pt.set i x}) (fun t ht=>ht) r h.2.1),h.2.2⟩
theorem JM.grow(h:JM D)(x y:Int):JM (D.grow x y):=by
 refine⟨h.1.grow x y,?_,?_⟩
 ·unfold Wd.grow
  split
  ·rename_i hE
   refine iP (P:=fun t=>t.mr.color=0∧t.mr.shadow=0) (g:=fun t=>{t with mr:={t.mr with color:=(D.mkD x y).parity,count:=(D.mkD x y).parity,shade:=(D.mkD x y).parity,shadow:=0}}) (fun t _=>⟨(h.1.mkD x y).1,rfl⟩) (D.mkR x y) ?_
   unfold Wd.mkD
   rw[if_pos hE]
   intro t ht
   rcases List.mem_append.1 (show t∈D.ts++[_] from ht) with ht|ht
   ·exact h.2.1 t ht
   ·obtain rfl:=List.mem_singleton.1 ht
    exact⟨rfl,rfl⟩
  ·exact h.2.1
 ·unfold Wd.grow
  split
  ·rename_i hE
   have e:(D.mkD x y).phase=D.phase∧(D.mkD x y).ring=D.ring:=by
    unfold Wd.mkD
    rw[if_pos hE]
    exact⟨rfl,rfl⟩
   exact⟨e.1.trans h.2.2.1,e.2.trans h.2.2.2⟩
  ·exact h.2.2
theorem FB.of{k0:Nat}(G:ow N D k0)(h:JM D)(hk:k0≤k)(hl:D.dw.length≤k):FB N D.dw (fun _=>0) k D:=
 ⟨G.RI h.1,G.nam,fun _ _=>rfl,fun t ht=>(h.2.1 t ht).1,h.2.2.1,h.2.2.2,G.san,fun q t hf=>by
  obtain⟨htl,e⟩:=find_live hf
  have h1:=G.nam.cnt t htl
  have h2:=G.bd ((t.h:Int)+1) (by omega)
  have h3:=(h.2.1 t (bH.1 htl).1).2
  rw[h1,h3]
  omega,by unfold Wd.dw at hl;simpa using hl,fun b hb=>by
  obtain⟨t,ht,rfl⟩:=List.mem_map.1 hb
  exact G.lt t ht⟩
theorem FB.held(F:FB N L hold k D)(hf:D.find r=some t)(hd:t.mr.dead=false):∃hold',FB N L hold' (k+1) (D.more r):=by
 obtain⟨htl,er⟩:=find_live hf
 have em:(D.more r).ts.map Th.h=D.ts.map Th.h:=Ae r
 have hb:=F.pi.bd.more r
 rw[QR F.ph] at em hb ⊢
 have S:=F.fin.san.up r
 refine⟨fun h=>hold h+if(h:Int)+1=r then 1 else 0,⟨S,by rw[em];exact F.fin.nd,(qX em).trans F.fin.refs,F.fin.dy.mark r (f:=fun m=>{m with refs:=m.refs+1}) (fun m hm=>hm),fun s hs=> ?_⟩,F.nam.Su F.fin.san hf hd (fun h=>rfl),fun b hn=> ?_,iP (P:=fun t=>t.mr.color=0) (g:=fun t=>{t with mr:={t.mr with refs:=t.mr.refs+1}}) (fun t ht=>ht) r F.col,F.ph,F.ring,F.pi.to S hb em⟩
 ·rcases wW (g:=fun t=>{t with mr:={t.mr with refs:=t.mr.refs+1}}) hs with hs|⟨u,hu,rfl⟩
  ·exact F.fin.fl s hs
  ·exact F.fin.fl u (iw hu)
 ·have h1:∀t,t∈D.live→t.h≠b:=fun t ht e=>by
   obtain⟨s,k1,k2⟩:=aQ (Ro (D:=D) r) ht
   exact hn s k1 (k2.trans e)
  show hold b+(if(b:Int)+1=r then 1 else 0)=0
  rw[F.out b h1,if_neg (fun e=>h1 t htl (by omega))]
theorem FB.up(F:FB N L hold k D):FB N L hold (k+1) D:=⟨F.fin,F.nam,F.out,F.col,F.ph,F.ring,F.pi.up⟩
theorem FB.inter(F:FB N L hold k D)(r:Int):FB N L hold k (D.inter r):=by
 refine⟨F.fin.inter r,F.nam.inter F.fin.san r,fun b hb=>F.out b (fun t ht e=> ?_),?_,?_,?_,F.fin.san.inter r,F.pi.bd.inter r,by rw[qA];exact F.pi.hd⟩
 ·obtain⟨s,k1,k2⟩:=aQ (Cs (D:=D) r) ht
  exact hb s k1 (k2.trans e)
 ·exact(Bt.inter (D:=D) ⟨F.fin.dy,F.col⟩ r).2
 ·unfold Wd.inter Wd.bury
  split
  ·split
   ·exact F.ph
   ·split
    ·exact F.ph
    ·exact F.ph
  ·exact F.ph
 ·unfold Wd.inter Wd.bury
  split
  ·split
   ·exact F.ring
   ·split
    ·exact F.ring
    ·show(D.ring.filter _)=[]
     rw[F.ring]
     rfl
  ·exact F.ring
theorem FB.tq{w wr:World}{p:Pl}(F:FB N L hold k D)(h:RSt w p (cfR N) D wr):TQ N hold (D.turn.begin 1):=
 ⟨⟨_,_,_,F.fin.ci h⟩,FM.OW (.idle F.ph ⟨F.fin.dy,F.col⟩) F.ph,F.nam.ts rfl,F.out,F.col,by show 1-D.parity=1;rw[F.fin.dy.1];rfl,F.ring,rfl⟩
end
theorem last_one{P:Nat→Bool}{a b:Nat}(ha:∀j,j<a→P j=true)(ha2:P a=false)(hb:∀j,j<b→P j=true)(hb2:P b=false):a=b:=by
 rcases Nat.lt_trichotomy a b with h|h|h
 ·rw[hb a h] at ha2
  cases ha2
 ·exact h
 ·rw[ha b h] at hb2
  cases hb2
theorem PInv.OH{c:Cf}{k:Nat}{D:Wd}(I:PInv c k D)(r:Int):PInv c (k+1) (D.less r):=I.to (I.san.less r) ((I.bd.less r).mono (Nat.le_succ k)) (GI r)
structure PK (w:World) (p:Pl) (c:Cf) (D:Wd) (P:World→Prop):Prop where
 st:∀a,P a→RSt w p c D a
 lat:∀a b,Below a.heap.size a b→P a→P b
 Hr:∀a b,P a→RSt w p c D b→Touch (inG p) a b→P b
def ny{w:World}{p:Pl}{c:Cf}{D:Wd}{P:World→Prop}(K:PK w p c D P):TX.sV where
 r a b:=P a→P b
 refl _ h:=h
 trans h k x:=k (h x)
 below hb h:=K.lat _ _ hb h
theorem kK{w wr w':World}{p:Pl}{c:Cf}{D:Wd}{P:World→Prop}{f:FuncId}{args:List Value}{B:Nat}{v:Value}(K:PK w p c D P)(hd:Does c D f args B D v)(h:P wr)(hC:(ny K).r wr w'):
  Calls Tryz.prog f (List.toArray (.pointer (some ⟨p.a,0,none⟩)::args)) w' fun e w''=>e=.returned v∧(ny K).r w' w'':=
 ((K.st _ (hC h)).does hd).mono fun e w'' ⟨e1,e2,hT⟩=>⟨e1,fun h=>K.Hr _ _ h e2 hT⟩
def xm(D:Wd)(x:Int):Prop:=∃t,D.find x=some t∧t.mr.dead=false∧((au (fI x) D.ts:Nat):Int)<t.mr.refs
def uo(D:Wd)(L:List Int)(k:Nat)(i:Nat):Nat:=nz (oZ (fI (i:Int)) D) L k
structure OS (w:World) (p:Pl) (N:Nat) (D:Wd) (L:List Int) (ws w5:World) (q k:Nat) (v:Value) (l:List Int) (wr:World):Prop where
 st:RSt w p (cfR N) D wr
 tc:Touch (inG p) ws wr
 nm:Blk wr q (ek (fun i=>.int .i64 ((uo D L L.length i:Nat):Int)) (N+1)) 3
 nq:¬jf p q
 ng:∀i,w5.heap.size≤i→¬jf p i
 s5:ws.heap.size≤w5.heap.size
 td:wr.ownsRow w5.heap.size 3 1 v l.length (l.map (Value.int .i64))
 q5:q<w5.heap.size
 len:l.length≤k
 mem:∀x,x∈l→xm D x
 all:∀j,j<k→xm D (nth L j)→nth L j∈l
 sz:w5.heap.size≤wr.heap.size
section
variable {w wr ws w5 w' w3:World} {p:Pl} {N q k:Nat} {D:Wd} {L l:List Int} {v v':Value} {t:Th} {x:Int} {hold:Nat→Nat}
theorem OS.pk:PK w p (cfR N) D (OS w p N D L ws w5 q k v l):=
 ⟨fun a h=>h.st,fun a b hb h=>⟨h.st.later hb,h.tc.trans (Touch.of_below hb),h.nm.later hb,h.nq,h.ng,h.s5,dx h.td hb,h.q5,h.len,h.mem,h.all,Nat.le_trans h.sz hb.size⟩,fun a b h hs hT=>⟨hs,h.tc.trans hT,h.nm.touch hT (fun hx=>h.nq (Or.inr hx)),h.nq,h.ng,h.s5,gq h.td hT (fun g hg hx=>h.ng g (bf h.td g hg) (Or.inr hx)),h.q5,h.len,h.mem,h.all,Nat.le_trans h.sz hT.size⟩⟩
theorem OS.Sr(_:OS w p N D L ws w5 q k v l wr):PK w p (cfR N) D (OS w p N D L ws w5 q k v l):=OS.pk
theorem OS.next(h:OS w p N D L ws w5 q k v l wr)(hn:¬xm D (nth L k)):OS w p N D L ws w5 q (k+1) v l wr:=
 ⟨h.st,h.tc,h.nm,h.nq,h.ng,h.s5,h.td,h.q5,Nat.le_succ_of_le h.len,h.mem,fun j hj ho=>by
  by_cases e:j=k
  ·exact absurd (e▸ho) hn
  ·exact h.all j (by omega) ho,h.sz⟩
theorem OS.push(h:OS w p N D L ws w5 q k v l wr)(hx:x=nth L k)(hc:xm D x)(hw:w.heap.size≤w5.heap.size)(ho:w3.ownsRow w5.heap.size 3 1 v' (l.length+1) (l.map (Value.int .i64)++[.int .i64 x]))(hg:(wr.alloc (.cells #[.int .i64 x] 3)).grownBy w3 v.ownBlock):OS w p N D L ws w5 q (k+1) v' (l++[x]) w3:=by
 have hq2:=bf h.td
 have hb:=below_new wr (.cells #[.int .i64 x] 3)
 have T0:Touch (fun b=>v.ownBlock=some b) wr w3:=(Touch.of_below hb).trans (nO hg)
 refine⟨h.st.touch T0 (fun i hi e=>h.ng i (hq2 i e) hi) (fun i e=>Nat.le_trans hw (hq2 i e)),?_,h.nm.touch T0 (fun e=>by have:=hq2 q e;have:=h.q5;omega),h.nq,h.ng,h.s5,by rw[List.length_append,List.map_append];exact ho,h.q5,by rw[List.length_append];have:=h.len;simp;omega,fun y hy=> ?_,fun j hj hc2=> ?_,Nat.le_trans h.sz T0.size⟩
 ·exact⟨T0.os.trans h.tc.os,T0.tape.trans h.tc.tape,T0.output.trans h.tc.output,Nat.le_trans h.tc.size T0.size,fun b hb hx=>(T0.block b (Nat.lt_of_lt_of_le hb h.tc.size) (fun e=>by have:=hq2 b e;have:=h.s5;omega)).trans (h.tc.block b hb hx)⟩
 ·rw[List.mem_append,List.mem_singleton] at hy
  rcases hy with hy|rfl
  ·exact h.mem y hy
  ·exact hc
 ·rw[List.mem_append,List.mem_singleton]
  by_cases e:j=k
  ·exact .inr (e▸hx.symm)
  ·exact .inl (h.all j (by omega) hc2)
theorem PH(F:nA L D){k:Nat}(hk:k≤L.length)(i:Nat):uo D L k i≤au (fI (i:Int)) D.ts:=by
 have h1:=AQ (oZ (fI (i:Int)) D) L hk
 have h2:=wH F.nd (fI (i:Int))
 rw[F.refs] at h2
 unfold uo
 omega
theorem Nz(F:nA L D)(i:Nat):uo D L L.length i=au (fI (i:Int)) D.ts:=by
 have h2:=wH F.nd (fI (i:Int))
 rw[F.refs] at h2
 exact h2
theorem Lf(hk:k<L.length)(hf:D.find (nth L k)=some t)(i:Nat):uo D L (k+1) i=uo D L k i+dN (i:Int) t.pt:=by
 unfold uo
 rw[sK _ hk]
 unfold oZ
 rw[hf]
 rfl
theorem pz(q:Int):∀(l:List Int) (f:Nat),dN q (l.take f)≤dN q l
 |[],f=>by simp
 |a::l,0=>by simp[dN]
 |a::l,f+1=>by
  have:=pz q l f
  simp only[List.take_succ_cons,dN]
  omega
theorem CK(n:Nat)(hn:n≤2000)(w:World):(Instr.makeSlice 45 (.int .i64 (n:Int)) (.int .i64 (n:Int))).run Tryz.prog w=.ok (.slice (some ⟨w.heap.size,0,none⟩) n n) (w.alloc (.cells (ek (fun _=>.int .i64 0) n) 3)):=by
 obtain⟨i0,hi,hz0,hz1,hz2⟩:=info_parts oJ
 have:=run_make w 45 3 i0 (.int .i64 0) Tryz.underlying45 hi hz0 .i64 .i64 (n:Int) (n:Int) (by omega) (Int.le_refl _) (by rw[hz2];omega) (by omega)
 rw[this,hz1,←CG _ rfl]
 simp
end
def Wd.empt(D:Wd)(r:Int)(i:Nat)(x:Int):Wd:=if(D.setP r i 0).cnt x=0 then D.setP r i 0 else((D.setP r i 0).down x).inter x
def Wd.reapB(D:Wd):Bool:=decide (D.phase=3)&&decide (D.cursor<(D.n:Int))
def Wd.reapAt(D:Wd):Option Th→Wd
 |none=>D.move (D.cursor+1) 0
 |some t=>if t.mr.dead=true∨t.mr.color=D.parity then D.move (D.cursor+1) 0
  else if D.field<(t.pt.length:Int) then(D.empt (D.cursor+1) D.field.toNat (nth t.pt D.field.toNat)).move D.cursor (D.field+1)
  else(D.paint (D.cursor+1)).move (D.cursor+1) 0
def Wd.reap(D:Wd):Wd:=if D.reapB then D.reapAt (D.find (D.cursor+1)) else D
section
variable {D D':Wd} {t u:Th} {r x y:Int} {hold:Nat→Nat} {k i:Nat} {c:Cf}
theorem reap_idle(h:D.reapB=false):D.reap=D:=by unfold Wd.reap;rw[h];rfl
theorem reap_no(h:D.phase≠3):D.reapB=false:=by unfold Wd.reapB;rw[decide_eq_false h];rfl
theorem EH(h:D.phase=3)(r:Int)(i:Nat)(x:Int):D.empt r i x=D.drain r i x:=by
 have hl:(D.setP r i 0).aC x=D.setP r i 0:=by
  unfold Wd.aC
  have:(D.setP r i 0).lighter x=false:=by
   unfold Wd.lighter
   have e:(D.setP r i 0).phase=3:=h
   rw[e]
   rfl
  rw[this]
  rfl
 unfold Wd.empt Wd.drain
 rw[hl,ite_self]
 rfl
theorem lF{P:Wd→Prop}(hF:0≤D.field)(h0:P D)(hn:∀D (x y:Int),P D→P (D.move x y))(hp:∀r,P (D.paint r))(he:∀r t i,D.find r=some t→t.mr.dead=false→i<t.pt.length→P (D.drain r i (nth t.pt i))):P D.reap:=by
 unfold Wd.reap
 cases hb:D.reapB with
 |false=>exact h0
 |true=>
  have h3:D.phase=3:=by
   unfold Wd.reapB at hb
   simp at hb
   exact hb.1
  rw[if_pos rfl]
  unfold Wd.reapAt
  split
  ·exact hn _ _ _ h0
  ·rename_i t hf
   split
   ·exact hn _ _ _ h0
   ·rename_i hd
    split
    ·rename_i hff
     rw[EH h3]
     exact hn _ _ _ (he _ t _ hf (by cases h:t.mr.dead;rfl;exact absurd (.inl h) hd) (by omega))
    ·exact hn _ _ _ (hp _)
theorem fP.paint(N:fP hold D)(S:San D)(r:Int):fP hold (D.paint r):=N.mark S r (f:=fun m=>{m with color:=D.parity}) (fun _=>rfl) (fun _=>rfl)
theorem San.reap(S:San D)(hF:0≤D.field):San D.reap:=lF hF S (fun D x y S=>S.move x y) (fun r=>S.paint r) (fun r t i hf _ _=>S.drain hf i _)
theorem fP.reap(N:fP hold D)(S:San D)(hF:0≤D.field):fP hold D.reap:=lF hF N (fun D x y N=>N.ts rfl) (fun r=>N.paint S r) (fun r t i hf _ hi=>N.drain S hf hi)
theorem di.reap(P:di 0 D)(N:fP hold D)(S:San D)(hF:0≤D.field):di 0 D.reap:=lF hF P (fun D x y P=>P.ts rfl) (fun r=>P.mark S r (f:=fun m=>{m with color:=D.parity}) (fun _=>rfl) (fun _ h=>h)) (fun r t i hf _ hi=>P.drain N S hf hi)
theorem NQ(hF:0≤D.field):D.reap.ts.map Th.h=D.ts.map Th.h:=lF (P:=fun E=>E.ts.map Th.h=D.ts.map Th.h) hF rfl (fun D x y h=>h) (fun r=>dI r _) (fun r t i _ _ _=>BX r i _)
theorem NR(hF:0≤D.field):D.reap.live.map Th.h=D.live.map Th.h:=lF (P:=fun E=>E.live.map Th.h=D.live.map Th.h) hF rfl (fun D x y h=>h) (fun r=>dS r _) (fun r t i hf _ _=>BZ hf i _)
theorem EN(x:Int):yt D (D.inter x):=by
 unfold Wd.inter Wd.bury
 split
 ·split
  ·exact yt.refl D
  ·split
   ·exact yt.refl D
   ·exact⟨rfl,rfl,rfl,rfl⟩
 ·exact yt.refl D
theorem Ko(r:Int)(i:Nat)(x:Int):yt D (D.empt r i x):=by
 unfold Wd.empt
 split
 ·exact⟨rfl,rfl,rfl,rfl⟩
 ·exact yt.trans (D':=(D.setP r i 0).down x) ⟨rfl,rfl,rfl,rfl⟩ (EN x)
theorem LB:D.reap.phase=D.phase∧D.reap.parity=D.parity∧(0≤D.field→0≤D.reap.field)∧(0≤D.cursor→0≤D.reap.cursor):=by
 unfold Wd.reap
 split
 ·unfold Wd.reapAt
  split
  ·exact⟨rfl,rfl,fun _=>Int.le_refl 0,fun h=>by show 0≤D.cursor+1;omega⟩
  ·split
   ·exact⟨rfl,rfl,fun _=>Int.le_refl 0,fun h=>by show 0≤D.cursor+1;omega⟩
   ·split
    ·rename_i t hf hd hff
     have h:=Ko (D:=D) (D.cursor+1) D.field.toNat (nth t.pt D.field.toNat)
     exact⟨h.2.2.2,h.1,fun h=>by show 0≤D.field+1;omega,fun h=>h⟩
    ·exact⟨rfl,rfl,fun _=>Int.le_refl 0,fun h=>by show 0≤D.cursor+1;omega⟩
 ·exact⟨rfl,rfl,fun h=>h,fun h=>h⟩
end
end Go.Proofs.YtjmifnljckmimaaGreat.Pk
