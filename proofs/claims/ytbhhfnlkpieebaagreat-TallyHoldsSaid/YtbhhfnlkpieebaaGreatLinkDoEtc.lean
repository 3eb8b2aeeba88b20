/-
  Texts laid together: LinkDo, LinkLaw, LinkInv.
-/
import Derived.Test.YtbhhfnlkpieebaaGreatGravCntEtc
namespace Go.Proofs.YtbhhfnlkpieebaaGreat.Pk
open Lib (hid)
open Go.RowKit
set_option linter.unusedVariables false
set_option linter.unusedSimpArgs false
set_option maxRecDepth 100000
section
variable {c:Cf} {D:Wd} {t u:Th} {r x y:Int} {zs:List Int} {hold:Nat→Nat}
theorem ku(hr:In64 r):Does c D 103 [.int .i64 r] 14 D (.bool (D.iD r)):=fun zs hz R=>by
 obtain⟨zs1,⟨d1,hd1,C1⟩,R1,hz1⟩:=(Ey (c:=c) (D:=D) hr).at hz R
 cases hf:D.find r with
 |none=>
  rw[hf] at C1
  rw[sP hf]
  exact⟨zs1,⟨d1,by omega,Bi C1⟩,R1⟩
 |some t=>
  rw[hf] at C1
  obtain⟨zs2,⟨d2,hd2,C2⟩,R2,hz2⟩:=(tintFns.dead c D r hr).at hz1 R1
  rw[show D.iD r= !D.dead r by unfold Wd.iD;rw[hf];rfl]
  exact⟨zs2,⟨d1+d2,by omega,IZ C1 C2⟩,R2⟩
theorem EG(hf:D.find r=some t)(hb:t.mr.refs<4294967295):Does c D 102 [.int .i64 r] 22 (D.more r) (.bool true):=fun zs hz R=>by
 have hr:=jA hz.may R hf
 obtain⟨zs1,⟨d1,hd1,C1⟩,R1,hz1⟩:=(Od (c:=c) hf hb).at hz R
 obtain⟨zs2,⟨d2,hd2,C2⟩,R2,hz2⟩:=(tintFns.touch c (D.up r) r hr).at hz1 R1
 exact⟨zs2,⟨d1+d2,by omega,KP C1 C2⟩,R2⟩
theorem MK(R:az c zs D)(hz:Wz c zs):az c (zs.set 16 1) D.ui:=by
 refine R.lw hz.may hz.len (k:=16) (by omega) (by omega) rfl rfl rfl rfl rfl rfl rfl rfl (fun j h1 h2 h3=> ?_) R.par
 have:j=10∨j=11∨j=12∨j=13∨j=14∨j=15∨j=17∨j=18:=by omega
 rcases this with rfl|rfl|rfl|rfl|rfl|rfl|rfl|rfl<;>rfl
theorem Iq(hf:D.find r=some t):(D.down r).ui.cnt r=t.mr.refs-1:=by
 have:(D.down r).ui.find r=some {t with mr:={t.mr with refs:=t.mr.refs-1}}:=by
  show(D.down r).find r=_
  unfold Wd.down
  rw[fF,hf]
  simp[lG hf]
 unfold Wd.cnt
 rw[this]
theorem EF(hf:D.find r=some t)(h0:t.mr.refs≠0)(hp0:0≤D.pending)(hp1:D.pending≤4294900000):Does c D 104 [.int .i64 r] 46 (D.less r) (.bool true):=fun zs hz R=>by
 have hr:=jA hz.may R hf
 obtain⟨zs1,C1,R1⟩:=Ex hz R hf h0
 have hz1:Wz c zs1:=iR.wz hz ⟨3,Nat.le_refl _,C1⟩
 have R2:=MK R1 hz1
 have hz2:Wz c (zs1.set 16 1):=hz1.set _ (by omega) (by omega)
 have hc:=Iq hf
 by_cases h1:t.mr.refs-1=0
 ·obtain⟨zs3,⟨d3,hd3,C3⟩,R3,hz3⟩:=(gd_inter (c:=c) (D:=(D.down r).ui) hr hp0 hp1).at hz2 R2
  rw[h1] at C1
  exact⟨zs3,⟨3+1+d3,by omega,Ja C1 C3⟩,R3⟩
 ·have e:D.less r=(D.down r).ui:=by unfold Wd.less Wd.inter;rw[if_neg (by rw[hc];exact h1)]
  rw[e]
  exact⟨_,⟨3+1,by omega,KO h1 C1⟩,R2⟩
theorem vI(hr:In64 r)(h:D.iD r=false):Does c D 44 [.int .i64 r] 14 D (.bool false):=fun zs hz R=>by
 obtain⟨zs1,⟨d1,hd1,C1⟩,R1,hz1⟩:=(ku (c:=c) (D:=D) hr).at hz R
 rw[h] at C1
 exact⟨zs1,⟨d1,hd1,Dp C1⟩,R1⟩
theorem EE(hf:D.find r=some t)(hd:t.mr.dead=false)(hb:t.mr.refs<4294967295):Does c D 44 [.int .i64 r] 36 (D.more r) (.bool true):=fun zs hz R=>by
 have hr:=jA hz.may R hf
 obtain⟨zs1,⟨d1,hd1,C1⟩,R1,hz1⟩:=(ku (c:=c) (D:=D) hr).at hz R
 rw[il hf,hd] at C1
 obtain⟨zs2,⟨d2,hd2,C2⟩,R2,hz2⟩:=(EG (c:=c) hf hb).at hz1 R1
 exact⟨zs2,⟨d1+d2,by omega,KN C1 C2⟩,R2⟩
theorem MJ(hf:D.find r=some t)(hd:t.mr.dead=false)(h0:t.mr.refs≠0)(hp0:0≤D.pending)(hp1:D.pending≤4294900000):Does c D 45 [.int .i64 r] 60 (D.less r) (.bool true):=fun zs hz R=>by
 have hr:=jA hz.may R hf
 obtain⟨zs1,⟨d1,hd1,C1⟩,R1,hz1⟩:=(ku (c:=c) (D:=D) hr).at hz R
 rw[il hf,hd] at C1
 obtain⟨zs2,⟨d2,hd2,C2⟩,R2,hz2⟩:=(EF (c:=c) hf h0 hp0 hp1).at hz1 R1
 exact⟨zs2,⟨d1+d2,by omega,MM C1 C2⟩,R2⟩
theorem FM(hf:D.find r=some t){i:Int}(hi:¬(0≤i∧i<(t.pt.length:Int))):Does c D 94 [.int .i64 r,.int .i64 i] 12 D (.tuple #[.int .i64 0,.int .i64 7]):=fun zs hz R=>by
 have h:=mJ.ptr c zs D.clean D.bH r i hz R.heap (jA hz.may R hf)
 have hob:=iB R r
 rw[hf] at hob
 have hob:eX D.bH r=some t.ob:=hob
 have hb:jP i t.ob.np=false:=by
  unfold jP
  rw[decide_eq_false_iff_not]
  exact hi
 rw[show pq c zs D.bH r i=0 by unfold pq;rw[hob];simp[hb],show pg c D.bH r i=7 by unfold pg;rw[hob];simp[hb]] at h
 exact⟨zs,h,R⟩
theorem vo(S:San D)(hf:D.find r=some t)(hd:t.mr.dead=false){i:Nat}(hi:i<t.pt.length)(hx:x=0∨∃u,D.find x=some u):Does c D 95 [.int .i64 r,.int .i64 (i:Int),.int .i64 x] 12 (D.av r i x) (.int .i64 0):=fun zs hz R=>by
 obtain⟨htl,_⟩:=find_live hf
 have hxb:0≤x∧x≤(c.N:Int):=by
  rcases hx with rfl|⟨u,hu⟩
  ·omega
  ·obtain⟨hul,e⟩:=find_live hu
   have:=R.hlt hul
   omega
 obtain⟨a,ha⟩:=((S.ok t htl).alive hd).field hz.may R.w.symm (S.ok t htl).geo hi
 obtain⟨⟨d,hd,C⟩,R',_⟩:=vV hz R hf hi ha hxb.1 hxb.2
 exact⟨_,⟨d,hd,C⟩,R'⟩
theorem Oi(S:San D)(hz:Wz c zs)(R:az c zs D)(hf:D.find r=some t)(hd:t.mr.dead=false){i:Nat}(hi:i<t.pt.length):In64 (nth t.pt i):=by
 obtain⟨htl,_⟩:=find_live hf
 obtain⟨a,ha⟩:=((S.ok t htl).alive hd).field hz.may R.w.symm (S.ok t htl).geo hi
 have:=(uA hz R (jA hz.may R hf) hf hi ha).2
 unfold In64
 omega
theorem LV(q:Int)(hf:D.find q=some t)(x:Int):∃m:df,(D.up x).find q=some {t with mr:=m}∧m.dead=t.mr.dead:=by
 unfold Wd.up
 rw[fF,hf]
 by_cases e:t.at x=true
 ·exact⟨{t.mr with refs:=t.mr.refs+1},by simp[e],rfl⟩
 ·exact⟨t.mr,by simp[e],rfl⟩
theorem iA(q:Int)(hf:D.find q=some t)(x:Int):∃m:df,(D.more x).find q=some {t with mr:=m}∧m.dead=t.mr.dead:=by
 obtain⟨m,h1,h2⟩:=LV q hf x
 obtain⟨k,h3⟩:=wE q h1 x
 exact⟨_,h3,h2⟩
theorem FX(x:Int):(D.more x).pending=D.pending∧(D.more x).clean=D.clean∧(D.more x).grave=D.grave:=by
 obtain⟨h1,h2,h3,_⟩:=wF (D:=D.up x) x
 exact⟨h3,h1,h2⟩
theorem Bb(hr:In64 r)(h:D.iD r=false)(i x:Int):Does c D 43 [.int .i64 r,.int .i64 i,.int .i64 x] 14 D (.int .i64 8):=fun zs hz R=>by
 obtain⟨zs1,⟨d1,hd1,C1⟩,R1,hz1⟩:=(ku (c:=c) (D:=D) hr).at hz R
 rw[h] at C1
 exact⟨zs1,⟨d1,hd1,Be C1⟩,R1⟩
theorem yX(hf:D.find r=some t)(hd:t.mr.dead=false){i:Int}(hi:¬(0≤i∧i<(t.pt.length:Int)))(x:Int):Does c D 43 [.int .i64 r,.int .i64 i,.int .i64 x] 26 D (.int .i64 7):=fun zs hz R=>by
 obtain⟨zs1,⟨d1,hd1,C1⟩,R1,hz1⟩:=(ku (c:=c) (D:=D) (jA hz.may R hf)).at hz R
 rw[il hf,hd] at C1
 obtain⟨zs2,⟨d2,hd2,C2⟩,R2,hz2⟩:=(FM (c:=c) hf hi).at hz1 R1
 exact⟨zs2,⟨d1+d2,by omega,za (by omega) C1 C2⟩,R2⟩
theorem Dk(S:San D)(hf:D.find r=some t)(hd:t.mr.dead=false){i:Nat}(hi:i<t.pt.length)(hx:x≠0)(h64:In64 x)(ha:D.iD x=false):Does c D 43 [.int .i64 r,.int .i64 (i:Int),.int .i64 x] 40 D (.int .i64 2):=fun zs hz R=>by
 obtain⟨zs1,⟨d1,hd1,C1⟩,R1,hz1⟩:=(ku (c:=c) (D:=D) (jA hz.may R hf)).at hz R
 rw[il hf,hd] at C1
 obtain⟨zs2,⟨d2,hd2,C2⟩,R2,hz2⟩:=(IJ (c:=c) S hf hd i).at hz1 R1
 rw[if_pos hi] at C2
 obtain⟨zs3,⟨d3,hd3,C3⟩,R3,hz3⟩:=(vI (c:=c) (D:=D) h64 ha).at hz2 R2
 exact⟨zs3,⟨d1+d2+d3,by omega,Dq hx C1 C2 C3⟩,R3⟩
theorem EH(h64:In64 y)(hp0:0≤D.pending)(hp1:D.pending≤4294900000)(hz:Wz c zs)(R:az c zs D):
  (¬0<D.cnt y∧D.si y=D∧∃zs1 d,d≤2∧Run c 37 [.int .i64 y] zs d zs1 (.int .i64 (D.cnt y))∧az c zs1 D)∨
  (0<D.cnt y∧∃zs1 d zs2 d2 b zs3 d3 b2,d+d2+d3≤62∧Run c 37 [.int .i64 y] zs d zs1 (.int .i64 (D.cnt y))∧Run c 60 [.int .i64 y] zs1 d2 zs2 (.bool b)∧Run c 104 [.int .i64 y] zs2 d3 zs3 (.bool b2)∧az c zs3 (D.si y)):=by
 obtain⟨zs1,⟨d1,hd1,C1⟩,R1,hz1⟩:=(IE (c:=c) (D:=D) h64).at hz R
 by_cases h:0<D.cnt y
 ·right
  cases hf:D.find y with
  |none=>unfold Wd.cnt at h;rw[hf] at h;simp at h
  |some v=>
   obtain⟨zs2,⟨d2,hd2,C2⟩,R2,hz2⟩:=(tintFns.touch c D y h64).at hz1 R1
   obtain⟨k,hk⟩:=wE y hf y
   have hr:v.mr.refs≠0:=by unfold Wd.cnt at h;rw[hf] at h;simp only at h;omega
   have e:=(wF (D:=D) y).2.2.1
   obtain⟨zs3,⟨d3,hd3,C3⟩,R3,hz3⟩:=(EF (c:=c) hk hr (by rw[e];exact hp0) (by rw[e];exact hp1)).at hz2 R2
   exact⟨h,zs1,d1,zs2,d2,_,zs3,d3,_,by omega,C1,C2,C3,by unfold Wd.si;rw[if_pos h];exact R3⟩
 ·exact .inl ⟨h,by unfold Wd.si;rw[if_neg h],zs1,d1,hd1,C1,R1⟩
theorem Dj(S:San D)(hf:D.find r=some t)(hd:t.mr.dead=false){i:Nat}(hi:i<t.pt.length)(hx:x=0∨∃u,D.find x=some u∧u.mr.dead=false∧u.mr.refs<4294967295)(hp0:0≤D.pending)(hp1:D.pending≤4294900000):
  Does c D 43 [.int .i64 r,.int .i64 (i:Int),.int .i64 x] 150 (D.put r i x (nth t.pt i)) (.int .i64 0):=fun zs hz R=>by
 have h64:=Oi S hz R hf hd hi
 obtain⟨zs1,⟨d1,hd1,C1⟩,R1,hz1⟩:=(ku (c:=c) (D:=D) (jA hz.may R hf)).at hz R
 rw[il hf,hd] at C1
 obtain⟨zs2,⟨d2,hd2,C2⟩,R2,hz2⟩:=(IJ (c:=c) S hf hd i).at hz1 R1
 rw[if_pos hi] at C2
 by_cases hx0:x=0
 ·subst hx0
  obtain⟨zs3,⟨d3,hd3,C3⟩,R3,hz3⟩:=(vo (c:=c) (x:=0) S hf hd hi (.inl rfl)).at hz2 R2
  have e:D.ig r i 0=D.av r i 0:=by unfold Wd.ig;rw[if_pos rfl]
  unfold Wd.put
  rw[e]
  rcases EH (y:=nth t.pt i) h64 (D:=D.av r i 0) hp0 hp1 hz3 R3 with⟨h0,e2,zs4,d4,hd4,C4,R4⟩|⟨h0,zs4,d4,zs5,d5,b,zs6,d6,b2,hd,C4,C5,C6,R6⟩
  ·rw[e2]
   exact⟨zs4,⟨d1+d2+d3+d4,by omega,Bg h0 C1 C2 C3 C4⟩,R4⟩
  ·exact⟨zs6,⟨d1+d2+d3+d4+d5+d6,by omega,ze h0 C1 C2 C3 C4 C5 C6⟩,R6⟩
 ·obtain⟨u,hu,hud,hub⟩:∃u,D.find x=some u∧u.mr.dead=false∧u.mr.refs<4294967295:=by
   rcases hx with h|h
   ·exact absurd h hx0
   ·exact h
  obtain⟨zs3,⟨d3,hd3,C3⟩,R3,hz3⟩:=(EE (c:=c) hu hud hub).at hz2 R2
  obtain⟨m,hf1,hm1⟩:=iA r hf x
  obtain⟨m2,hu1,_⟩:=iA x hu x
  obtain⟨zs4,⟨d4,hd4,C4⟩,R4,hz4⟩:=(vo (c:=c) (x:=x) (t:={t with mr:=m}) (i:=i) (S.more x) hf1 (hm1.trans hd) hi (.inr ⟨_,hu1⟩)).at hz3 R3
  have e:D.ig r i x=(D.more x).av r i x:=by unfold Wd.ig;rw[if_neg hx0]
  have ep:=(FX (D:=D) x).1
  unfold Wd.put
  rw[e]
  rcases EH (y:=nth t.pt i) h64 (D:=(D.more x).av r i x) (by show 0≤(D.more x).pending;rw[ep];exact hp0) (by show(D.more x).pending≤_;rw[ep];exact hp1) hz4 R4 with⟨h0,e2,zs5,d5,hd5,C5,R5⟩|⟨h0,zs5,d5,zs6,d6,b,zs7,d7,b2,hd,C5,C6,C7,R7⟩
  ·rw[e2]
   exact⟨zs5,⟨d1+d2+d3+d4+d5,by omega,Dr hx0 h0 C1 C2 C3 C4 C5⟩,R5⟩
  ·exact⟨zs7,⟨d1+d2+d3+d4+d5+d6+d7,by omega,Bf hx0 h0 C1 C2 C3 C4 C5 C6 C7⟩,R7⟩
end
section
variable {c:Cf} {D:Wd} {t:Th} {zs:List Int} {x y:Int} {w wr:World} {p:Pl}
structure lZ (D:Wd) (x y:Int) (N:Nat):Prop where
 san:San D→San (D.gI x y)
 new:D.tJ x y=0→∃t,(D.gI x y).find (D.jT x y)=some t∧t.h=D.nD∧t.mr=df.new
 fresh:D.tJ x y=0→∀t,t∈D.live→t.h≠D.nD
 lt:D.tJ x y=0→D.nD<N
theorem RSt.Ic(h:RSt w p c (D.gI x y) wr):lZ D x y c.N:=by
 have hs:San D→San (D.gI x y):=fun S=>S.gI h
 obtain⟨zs,m,hG,hR,_⟩:=h
 have key:D.tJ x y=0→(∃t,(D.gI x y).find (D.jT x y)=some t∧t.h=D.nD∧t.mr=df.new)∧(∀t,t∈D.live→t.h≠D.nD)∧D.nD<c.N:=fun h0=>by
  have eR:D.jT x y=(D.nD:Int)+1:=by unfold Wd.jT;rw[if_pos h0]
  have eD:D.gI x y=D.made D.nD (D.clean.tail.take (D.zX x y)) (D.clean.tail.drop (D.zX x y)) x.toNat y.toNat:=by unfold Wd.gI;rw[if_pos h0]
  rw[eD] at hR ⊢
  rw[eR]
  generalize D.clean.tail.take (D.zX x y)=ls at*
  generalize D.clean.tail.drop (D.zX x y)=cl at*
  have hl:=dx (D:=D) (b:=D.nD) (ls:=ls) (cl:=cl) (np:=x.toNat) (nd:=y.toNat)
  have hm:(⟨D.nD,ints ls,gJ x.toNat,gJ y.toNat,false,df.new⟩:Th)∈(D.made D.nD ls cl x.toNat y.toNat).live:=by rw[hl];simp
  have hn:=hR.nodup
  rw[hl,List.map_append,List.nodup_append] at hn
  exact⟨⟨_,hR.bE hm,rfl,rfl⟩,fun t ht=>hn.2.2 t.h (List.mem_map.2 ⟨t,ht,rfl⟩) D.nD (by simp),hR.hlt hm⟩
 exact⟨hs,fun h0=>(key h0).1,fun h0=>(key h0).2.1,fun h0=>(key h0).2.2⟩
theorem Az(q:Int)(hf:D.find q=some t)(r:Int):∃m:df,(D.pQ r).find q=some {t with mr:=m}∧m.dead=t.mr.dead∧m.refs=t.mr.refs:=by
 unfold Wd.pQ
 rw[fF,hf]
 by_cases e:t.at r=true
 ·exact⟨{t.mr with color:=D.parity,count:=D.parity,shade:=D.parity,shadow:=0},by simp[e],rfl,rfl⟩
 ·exact⟨t.mr,by simp[e],rfl,rfl⟩
theorem lZ.Pf{N:Nat}(B:lZ D x y N)(S:San D):San (D.born x y):=by
 unfold Wd.born
 split
 ·have S1:San ((D.gI x y).pQ (D.jT x y)):=(B.san S).mark _ (fun _=>rfl) (fun _=>rfl) (fun _=>rfl)
  exact S1.more _
 ·exact S
set_option maxHeartbeats 2000000 in
theorem EK(c:Cf)(D:Wd)(x y:Int){wr w:World}{p:Pl}(h:RSt w p c D wr):
  Calls Tryz.prog 41 #[.pointer (some ⟨p.a,0,none⟩),.int .i64 x,.int .i64 y] wr fun e w'=>e=.returned (.tuple #[.int .i64 (D.jT x y),.int .i64 (D.tJ x y)])∧RSt w p c (D.born x y) w'∧Touch (inG p) wr w'∧lZ D x y c.N:=by
 have HM:=hid (FV mJ c D x y h)
 clear h
 by_cases hE:D.tJ x y=0
 ·have hD:D.born x y=((D.gI x y).pQ (D.jT x y)).more (D.jT x y):=by unfold Wd.born;rw[if_pos hE]
  have HE:=hid hE
  rw[hE] at HM
  rw[hE,hD]
  clear hE hD
  go_enter Tryz.func41,Tryz.ntmps41
  go_wp2_with fail
  refine HM.out.mono ?_
  rintro e w1 ⟨rfl,h1,hT⟩
  have HBk:=hid h1.Ic
  have HS1:=hid h1
  have HT1:=hid hT
  obtain⟨t,hf,eh,em⟩:=HBk.out.new HE.out
  have h64:In64 (D.jT x y):=by
   obtain⟨zs,m,hG,hR,_⟩:=h1
   exact jA hG.may hR hf
  obtain⟨m,hf2,_,em2⟩:=Az (D.jT x y) hf (D.jT x y)
  have HDy:=hid ((tintFns.pQ c (D.gI x y) (D.jT x y) h64).as (vb (show((D.gI x y).find (D.jT x y)).isSome=true by rw[hf];rfl)) rfl)
  have HMo:=hid (EG (c:=c) hf2 (by show m.refs<_;rw[em2,em];decide))
  clear h1 hT hf hf2
  go_wp2_with fail
  refine(HS1.out.does HDy.out).mono ?_
  rintro e w2 ⟨rfl,h2,hT2⟩
  have HS2:=hid h2
  have HT2:=hid (HT1.out.trans hT2)
  clear h2 hT2
  go_wp2_with fail
  refine(HS2.out.does HMo.out).mono ?_
  rintro e w3 ⟨rfl,h3,hT3⟩
  have HS3:=hid h3
  have HT3:=hid (HT2.out.trans hT3)
  clear h3 hT3
  go_wp2_with fail
  go_ret2
  exact⟨rfl,HS3.out,HT3.out,HBk.out⟩
 ·have hD:D.born x y=D.gI x y:=by unfold Wd.born Wd.gI;rw[if_neg hE,if_neg hE]
  have hR:D.jT x y=0:=by unfold Wd.jT;rw[if_neg hE]
  have hEb:(D.tJ x y !=0)=true:=by rw[bne_iff_ne];exact hE
  rw[hR] at HM
  rw[hD,hR]
  clear hE hD hR
  go_enter Tryz.func41,Tryz.ntmps41
  go_wp2_with fail
  refine HM.out.mono ?_
  rintro e w1 ⟨rfl,h1,hT⟩
  have HBk:=hid h1.Ic
  have HS1:=hid h1
  have HT1:=hid hT
  clear h1 hT
  go_wp2_with fail
  go_ret2
  exact⟨rfl,HS1.out,HT1.out,HBk.out⟩
end
theorem San.OZ{D:Wd}{r x y:Int}{i:Nat}{t:Th}(S:San D)(hf:D.find r=some t)(hd:t.mr.dead=false):San (D.put r i x y):=by
 have S1:San (D.ig r i x):=by
  unfold Wd.ig
  split
  ·exact S.av hf i (fun h=>by rw[hd] at h;cases h)
  ·obtain⟨m,h1,h2⟩:=iA r hf x
   exact(S.more x).av h1 i (fun h=>by have:m.dead=true:=h;rw[h2,hd] at this;cases this)
 unfold Wd.put Wd.si
 split
 ·exact(S1.touch y).less y
 ·exact S1
section
variable {D D':Wd} {r x y:Int} {t s u:Th} {hold hold':Nat→Nat} {k N:Nat}
theorem OB(x:Int):(D.up x).live.map Th.h=D.live.map Th.h:=bJ x _
theorem Cn(x:Int):(D.touch x).live.map Th.h=D.live.map Th.h:=by
 rcases jv (D:=D) x with h|h
 ·unfold Wd.live;rw[h]
 ·have:(D.touch x).live=(D.gD x).live:=by unfold Wd.live;rw[h]
  rw[this]
  exact bJ x _
theorem qC(x:Int):(D.more x).live.map Th.h=D.live.map Th.h:=(Cn x).trans (OB x)
theorem Km(x:Int):(D.bury x).live.map Th.h=D.live.map Th.h:=by
 unfold Wd.bury
 cases hf:D.find x with
 |none=>rfl
 |some t=>
  simp only
  split
  ·rfl
  ·unfold Wd.live
   rw[lay_ts]
   exact dC (g:=fun s=>{s with mr:={s.mr with dead:=true,left:=(t.pt.length:Int),leaves:=(t.lv.length:Int)}}) hf (aR hf).2.1 rfl
theorem AZ(x:Int):(D.inter x).live.map Th.h=D.live.map Th.h:=by
 unfold Wd.inter
 split
 ·exact Km x
 ·rfl
theorem EJ(x:Int):(D.less x).live.map Th.h=D.live.map Th.h:=(AZ (D:=(D.down x).ui) x).trans (show(D.down x).ui.live.map Th.h=D.live.map Th.h from bJ (D:=D) x (fun m=>{m with refs:=m.refs-1}))
theorem mR(hf:D.find r=some t)(i:Nat)(x:Int):(D.av r i x).live.map Th.h=D.live.map Th.h:=dC (g:=fun t=>{t with pt:=t.pt.set i x}) hf (aR hf).2.1 rfl
theorem Dn(x:Int):(D.ay x).live.map Th.h=D.live.map Th.h:=by
 unfold Wd.ay
 split
 ·exact bJ x _
 ·rfl
theorem Iw(hf:D.find r=some t)(i:Nat)(x:Int):(D.drain r i x).live.map Th.h=D.live.map Th.h:=by
 have key:∀D2:Wd,D2.live.map Th.h=D.live.map Th.h→((D2.down x).inter x).live.map Th.h=D.live.map Th.h:=fun D2 h=>(AZ x).trans ((bJ x _).trans h)
 unfold Wd.drain
 by_cases hc:(D.av r i 0).cnt x=0
 ·rw[if_pos hc];exact mR hf i 0
 ·rw[if_neg hc]
  refine key _ ?_
  split
  ·rw[Dn];exact mR hf i 0
  ·exact mR hf i 0
theorem Nh(hf:D.find r=some t)(i:Nat)(x y:Int):(D.put r i x y).live.map Th.h=D.live.map Th.h:=by
 have h1:(D.ig r i x).live.map Th.h=D.live.map Th.h:=by
  unfold Wd.ig
  split
  ·exact mR hf i x
  ·obtain⟨m,h1,_⟩:=iA r hf x
   exact(mR h1 i x).trans (qC x)
 unfold Wd.put Wd.si
 split
 ·exact(EJ y).trans ((Cn y).trans h1)
 ·exact h1
theorem dF.av(P:dF x D)(S:San D)(hf:D.find r=some t)(i:Nat)(z:Int):dF x (D.av r i z):=fun s hs hd hx=>by
 rcases bD (g:=fun t=>{t with pt:=t.pt.set i z}) S.nd hf hs with rfl|⟨h,_⟩
 ·exact P t (find_live hf).1 hd hx
 ·exact P s h hd hx
theorem dF.ay(P:dF x D)(S:San D)(z:Int):dF x (D.ay z):=by
 unfold Wd.ay
 split
 ·exact P.mark S z (fun _=>rfl) (fun _ h=>h)
 ·exact P
theorem dF.drain(P:dF 0 D)(N:gH hold D)(S:San D)(hf:D.find r=some t){i:Nat}(hi:i<t.pt.length):dF 0 (D.drain r i (nth t.pt i)):=by
 have N1:=N.clear S hf hi
 have S1:=S.av hf i (x:=0) (fun _=>rfl)
 have P1:=P.av S hf i 0
 generalize nth t.pt i=x at N1
 unfold Wd.drain
 by_cases hc:(D.av r i 0).cnt x=0
 ·rw[if_pos hc];exact P1
 ·rw[if_neg hc]
  have key:∀D2:Wd,San D2→ug hold x D2→dF 0 D2→dF 0 ((D2.down x).inter x):=fun D2 S2 N2 P2=>(P2.down S2 x).inter (N2.down S2) (S2.down x)
  have K:San (if(D.av r i 0).counted r i then(D.av r i 0).ay x else D.av r i 0)∧ug hold x (if(D.av r i 0).counted r i then(D.av r i 0).ay x else D.av r i 0)∧dF 0 (if(D.av r i 0).counted r i then(D.av r i 0).ay x else D.av r i 0):=by
   split
   ·refine⟨S1.ay x,?_,P1.ay S1 x⟩
    unfold Wd.ay
    split
    ·exact N1.mark S1 x (fun _=>rfl) (fun _=>rfl)
    ·exact N1
   ·exact⟨S1,N1,P1⟩
  exact key _ K.1 K.2.1 K.2.2
theorem JB(P:dF 0 D)(N:gH hold D)(S:San D):dF 0 D.step∧∀s,s∈D.live→(∃s',s'∈D.step.live∧s'.h=s.h)∨s.mr.dead=true:=by
 cases hg:D.grave with
 |nil=>rw[show D.step=D by unfold Wd.step;rw[hg]];exact⟨P,fun s hs=>.inl ⟨s,hs,rfl⟩⟩
 |cons q rest=>
  obtain⟨t,htl,e,hf,hd,d,es⟩:=S.head hg
  have hw:=S.w
  rw[es]
  unfold Wd.work
  by_cases ha:D.ahead t.mr.leaves<t.mr.left
  ·have h0:0≤D.ahead t.mr.leaves:=by
    unfold Wd.ahead
    refine Int.mul_nonneg ?_ (by omega)
    split<;>omega
   rw[if_pos ha]
   have hi:(t.mr.left-1).toNat<t.pt.length:=by have:=d.f1;omega
   exact⟨(P.drain N S hf hi).mark (S.drain hf _ _) _ (fun _=>rfl) (fun _ h=>h),fun s hs=>.inl (aM ((bJ _ _).trans (Iw hf _ _)) hs)⟩
  ·rw[if_neg ha]
   by_cases hl:0<t.mr.leaves
   ·rw[if_pos hl]
    have ets:({(D.fZ (q:Int) (t.mr.leaves-1).toNat (nth t.lv (t.mr.leaves-1).toNat).toNat).mark (q:Int) (fun m=>{m with leaves:=t.mr.leaves-1}) with pending:=D.pending-1}:Wd).ts=updL (q:Int) (fun s=>{s with lv:=s.lv.set (t.mr.leaves-1).toNat (-1),mr:={s.mr with leaves:=t.mr.leaves-1}}) D.ts:=jk _ _ _ _
    refine⟨fun s hs hds hx=> ?_,fun s hs=>.inl (aM ?_ hs)⟩
    ·unfold Wd.live at hs
     rw[ets] at hs
     rcases bD (g:=fun s=>{s with lv:=s.lv.set (t.mr.leaves-1).toNat (-1),mr:={s.mr with leaves:=t.mr.leaves-1}}) S.nd hf hs with rfl|⟨h,_⟩
     ·have hds:t.mr.dead=false:=hds
      rw[hd] at hds
      cases hds
     ·exact P s h hds hx
    ·unfold Wd.live
     rw[ets]
     exact dC (g:=fun s=>{s with lv:=s.lv.set (t.mr.leaves-1).toNat (-1),mr:={s.mr with leaves:=t.mr.leaves-1}}) hf (aR hf).2.1 rfl
   ·rw[if_neg hl]
    have hlive:({({D with grave:=rest}:Wd).iw (q:Int) t.h with pending:=D.pending-1}:Wd).live=D.live.filter (fun s=>s.h !=t.h):=dU (g:=fun s=>{s with ended:=true}) (fun _=>rfl) S.nd hf
    refine⟨fun s hs hds hx=> ?_,fun s hs=> ?_⟩
    ·rw[hlive] at hs
     exact P s (List.mem_filter.1 hs).1 hds hx
    ·by_cases e2:s.h=t.h
     ·right
      rw[S.same hs htl e2]
      exact hd
     ·exact .inl ⟨s,by rw[hlive];exact List.mem_filter.2 ⟨hs,by simpa using e2⟩,rfl⟩
structure fV (hold:Nat→Nat) (k:Nat) (D:Wd):Prop where
 san:San D
 nam:gH hold D
 pos:dF 0 D
 bd:∀h,hold h≤k
 out:∀h:Nat,(∀t,t∈D.live→t.h≠h)→hold h=0
theorem fV.new(n:Nat){w:Nat}(h:16≤w):fV (fun _=>0) 0 (Wd.new n w):=⟨San.new n h,(Gro.new n h).nam,fun t ht=>absurd ht (by simp[Wd.live,Wd.new,aL]),fun _=>Nat.le_refl _,fun _ _=>rfl⟩
theorem fV.mono{k2:Nat}(I:fV hold k D)(h:k≤k2):fV hold k2 D:=⟨I.san,I.nam,I.pos,fun a=>Nat.le_trans (I.bd a) h,I.out⟩
theorem fV.step(I:fV hold k D):fV hold k D.step:=by
 obtain⟨h1,h2⟩:=JB I.pos I.nam I.san
 refine⟨I.san.step,I.nam.step I.san,h1,I.bd,fun h hn=> ?_⟩
 by_cases e:∀t,t∈D.live→t.h≠h
 ·exact I.out h e
 ·have:∃t,t∈D.live∧t.h=h:=by
   apply Classical.byContradiction
   intro hc
   exact e (fun t ht e2=>hc ⟨t,ht,e2⟩)
  obtain⟨t,ht,rfl⟩:=this
  rcases h2 t ht with⟨s,hs,e2⟩|hd
  ·exact absurd e2 (hn s hs)
  ·have h3:=I.nam.gJ t ht hd
   have h4:=I.nam.cnt t ht
   omega
theorem zq(I:fV hold k D)(h:D'.live.map Th.h=D.live.map Th.h):∀b:Nat,(∀t,t∈D'.live→t.h≠b)→hold b=0:=fun b hb=>I.out b (fun t ht e=>by
 obtain⟨s,h1,h2⟩:=aM h ht
 exact hb s h1 (by omega))
theorem fV.up(I:fV hold k D)(hf:D.find r=some t)(hd:t.mr.dead=false)(hh:∀h:Nat,hold' h=hold h+if(h:Int)+1=r then 1 else 0):fV hold' (k+1) (D.more r):=by
 have N1:=I.nam.Pn I.san hf hd hh
 have S1:=I.san.up r
 refine⟨I.san.more r,N1.touch S1 r,(I.pos.up I.nam I.san r).touch S1 r,fun h=> ?_,fun h hn=> ?_⟩
 ·rw[hh]
  have:=I.bd h
  split<;>omega
 ·rw[hh]
  obtain⟨htl,e⟩:=find_live hf
  have h1:=zq I (qC r) h hn
  rw[h1,if_neg (fun e2=> ?_)]
  obtain⟨s,a1,a2⟩:=aM (qC (D:=D) r) htl
  exact hn s a1 (by omega)
theorem fV.let(I:fV hold k D)(hh:∀h:Nat,hold h=hold' h+if(h:Int)+1=r then 1 else 0):fV hold' k (D.less r):=by
 refine⟨I.san.less r,I.nam.less I.san hh,I.pos.less I.san (I.nam.Im I.san hh),fun h=> ?_,fun h hn=> ?_⟩
 ·have:=I.bd h
  rw[hh] at this
  omega
 ·have:=zq I (EJ r) h hn
  rw[hh] at this
  omega
theorem fV.put(I:fV hold k D)(hf:D.find r=some t)(hd:t.mr.dead=false){i:Nat}(hi:i<t.pt.length)(hx:x=0∨∃u,D.find x=some u∧u.mr.dead=false):fV hold k (D.put r i x (nth t.pt i)):=by
 -- the holds in between: one more of x, then one more of what the field held.
 have key:∃h2:Nat→Nat,(∀h:Nat,h2 h=hold h+if(h:Int)+1=nth t.pt i then 1 else 0)∧San (D.ig r i x)∧gH h2 (D.ig r i x)∧dF 0 (D.ig r i x):=by
  refine⟨fun h=>hold h+if(h:Int)+1=nth t.pt i then 1 else 0,fun _=>rfl,?_⟩
  unfold Wd.ig
  by_cases hx0:x=0
  ·rw[if_pos hx0]
   exact⟨I.san.av hf i (fun h=>by rw[hd] at h;cases h),I.nam.setH I.san hf hi (.inl hx0) (fun h=>by show hold h+(if(h:Int)+1=nth t.pt i then 1 else 0)+(if(h:Int)+1=x then 1 else 0)=hold h+(if(h:Int)+1=nth t.pt i then 1 else 0);rw[if_neg (show ¬(h:Int)+1=x by omega)];rfl),I.pos.av I.san hf i x⟩
  ·rw[if_neg hx0]
   obtain⟨u,hu,hud⟩:∃u,D.find x=some u∧u.mr.dead=false:=by
    rcases hx with h|h
    ·exact absurd h hx0
    ·exact h
   have I1:=I.up (hold':=fun h=>hold h+if(h:Int)+1=x then 1 else 0) hu hud (fun _=>rfl)
   obtain⟨m,hf1,hm1⟩:=iA r hf x
   obtain⟨m2,hu1,_⟩:=iA x hu x
   exact⟨I1.san.av hf1 i (fun h=>by have h:m.dead=true:=h;rw[hm1,hd] at h;cases h),I1.nam.setH I1.san hf1 (i:=i) hi (.inr ⟨_,hu1⟩) (fun h=>by show hold h+(if(h:Int)+1=nth t.pt i then 1 else 0)+(if(h:Int)+1=x then 1 else 0)=hold h+(if(h:Int)+1=x then 1 else 0)+(if(h:Int)+1=nth t.pt i then 1 else 0);omega),I1.pos.av I1.san hf1 i x⟩
 obtain⟨h2,e2,S2,N2,P2⟩:=key
 have hgood:=I.nam.good t (find_live hf).1 i hi
 have hlh:=Nh hf i x (nth t.pt i)
 have hout:=zq I hlh
 unfold Wd.put at hout ⊢
 unfold Wd.si at hout ⊢
 by_cases hc:0<(D.ig r i x).cnt (nth t.pt i)
 ·rw[if_pos hc] at hout ⊢
  have S3:=S2.touch (nth t.pt i)
  have N3:=N2.touch S2 (nth t.pt i)
  have P3:=P2.touch S2 (nth t.pt i)
  exact⟨S3.less _,N3.less S3 e2,P3.less S3 (N3.Im S3 e2),I.bd,hout⟩
 ·rw[if_neg hc] at hout ⊢
  have hz:∀h:Nat,(h:Int)+1≠nth t.pt i:=fun h e=>by
   rcases hgood with h0|⟨u,hu,hu2⟩
   ·omega
   ·have hl1:(D.ig r i x).live.map Th.h=D.live.map Th.h:=by
     unfold Wd.ig
     split
     ·exact mR hf i x
     ·obtain⟨m,h1,_⟩:=iA r hf x
      exact(mR h1 i x).trans (qC x)
    obtain⟨u',a1,a2⟩:=aM hl1 hu
    have h3:=N2.cnt u' a1
    rw[e2,if_pos (by omega)] at h3
    have h4:=S2.bE a1
    unfold Wd.cnt at hc
    rw[←hu2,←a2,h4] at hc
    simp only at hc
    omega
  have e3:h2=hold:=funext (fun h=>by rw[e2,if_neg (hz h)];rfl)
  rw[e3] at N2
  exact⟨S2,N2,P2,I.bd,hout⟩
theorem fV.born(I:fV hold k D)(B:lZ D x y N)(hE:D.tJ x y=0)(hh:∀h:Nat,hold' h=hold h+if h=D.nD then 1 else 0):fV hold' (k+1) (D.born x y):=by
 have eR:D.jT x y=(D.nD:Int)+1:=by unfold Wd.jT;rw[if_pos hE]
 obtain⟨t,hf,et,em⟩:=B.new hE
 have hfr:=B.fresh hE
 have S1:=B.san I.san
 have eD:D.gI x y=D.made D.nD (D.clean.tail.take (D.zX x y)) (D.clean.tail.drop (D.zX x y)) x.toNat y.toNat:=by unfold Wd.gI;rw[if_pos hE]
 have h0:hold D.nD=0:=I.out _ hfr
 have N1:gH hold (D.gI x y):=by rw[eD];exact I.nam.made h0 hfr
 have hl:(D.gI x y).live.map Th.h=D.live.map Th.h++[D.nD]:=by rw[eD,dx,List.map_append];rfl
 have P1:dF ((D.nD:Int)+1) (D.gI x y):=fun s hs hd hx=>by
  rw[eD,dx] at hs
  rcases List.mem_append.1 hs with h|h
  ·exact I.pos s h hd (by omega)
  ·obtain rfl:=List.mem_singleton.1 h
   exact absurd rfl hx
 obtain⟨m,hf2,hm1,hm2⟩:=Az (D.jT x y) hf (D.jT x y)
 have S2:San ((D.gI x y).pQ (D.jT x y)):=S1.mark _ (fun _=>rfl) (fun _=>rfl) (fun _=>rfl)
 have N2:gH hold ((D.gI x y).pQ (D.jT x y)):=N1.mark S1 _ (fun _=>rfl) (fun _=>rfl)
 have P2:dF (D.jT x y) ((D.gI x y).pQ (D.jT x y)):=by rw[eR];exact P1.mark S1 _ (fun _=>rfl) (fun _ h=>h)
 have hdead:m.dead=false:=by rw[hm1,em];rfl
 have N3:gH hold' (((D.gI x y).pQ (D.jT x y)).up (D.jT x y)):=N2.Pn S2 hf2 hdead (fun h=>by
  rw[hh]
  congr 1
  by_cases e:h=D.nD
  ·rw[if_pos e,if_pos (by rw[eR,e])]
  ·rw[if_neg e,if_neg (by rw[eR];omega)])
 have S3:=S2.up (D.jT x y)
 have eB:D.born x y=((D.gI x y).pQ (D.jT x y)).more (D.jT x y):=by unfold Wd.born;rw[if_pos hE]
 have hlB:(D.born x y).live.map Th.h=D.live.map Th.h++[D.nD]:=by rw[eB,qC];exact(bJ _ _).trans hl
 refine⟨by rw[eB];exact S2.more _,by rw[eB];exact N3.touch S3 _,by rw[eB];exact(P2.Ps N2 S2).touch S3 _,fun h=> ?_,fun h hn=> ?_⟩
 ·rw[hh]
  have:=I.bd h
  split<;>omega
 ·have hnm:h∉(D.born x y).live.map Th.h:=fun hm=>by
   obtain⟨s,a1,a2⟩:=List.mem_map.1 hm
   exact hn s a1 a2
  rw[hlB] at hnm
  simp only[List.mem_append,List.mem_singleton,not_or] at hnm
  rw[hh,if_neg hnm.2,I.out h (fun t ht e=>hnm.1 (List.mem_map.2 ⟨t,ht,e⟩))]
end
end Go.Proofs.YtbhhfnlkpieebaaGreat.Pk
