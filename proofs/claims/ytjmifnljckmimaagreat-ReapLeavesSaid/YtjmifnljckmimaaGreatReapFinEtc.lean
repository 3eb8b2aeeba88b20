/-
  Texts laid together: ReapFin, ReapLeavF.
-/
import Derived.Test.YtjmifnljckmimaaGreatReapOutEtc
import Derived.Test.YtjmifnljckmimaaGreatGravGrownEtc
namespace Go.Proofs.YtjmifnljckmimaaGreat.Pk
open Lib (hid)
open Go.RowKit
set_option linter.unusedVariables false
set_option linter.unusedSimpArgs false
set_option maxRecDepth 100000
section
variable {D D':Wd} {t s:Th} {r q x:Int} {hold:Nat→Nat} {L fl:List Int} {N k m n:Nat} {mk:Int→Prop}
theorem EM(r:Int)(hf:(D.inter r).find q=some s):∃t,D.find q=some t∧s.mr.refs=t.mr.refs∧(s.mr.dead=false→t.mr.dead=false)∧(q=r→s.mr.dead=false→D.cnt r≠0):=by
 unfold Wd.inter at hf
 split at hf
 ·rename_i h0
  unfold Wd.bury at hf
  split at hf
  ·rename_i hn
   exact⟨s,hf,rfl,id,fun e=>by rw[e,hn] at hf;cases hf⟩
  ·rename_i t ht
   split at hf
   ·rename_i hd
    exact⟨s,hf,rfl,id,fun e h=>by
     rw[e,ht] at hf
     cases hf
     rw[hd] at h
     cases h⟩
   ·have h1:=iy (g:=fun s=>{s with mr:={s.mr with dead:=true,left:=(t.pt.length:Int),leaves:=(t.lv.length:Int)}}) (fun _=>⟨rfl,rfl⟩) (r:=r) q D.ts
    have h2:(D.lay r t).find q=(D.find q).map (fun u=>if u.at r=true then {u with mr:={u.mr with dead:=true,left:=(t.pt.length:Int),leaves:=(t.lv.length:Int)}} else u):=by
     unfold Wd.find
     rw[gI]
     exact h1
    rw[h2] at hf
    cases hu:D.find q with
    |none=>rw[hu] at hf;cases hf
    |some u=>
     rw[hu] at hf
     simp only[Option.map_some] at hf
     injection hf with hf
     refine⟨u,rfl,?_,fun h=> ?_,fun e h=> ?_⟩
     ·rw[←hf];split<;>rfl
     ·rw[←hf] at h
      split at h
      ·cases h
      ·exact h
     ·rw[←hf] at h
      split at h
      ·cases h
      ·rename_i hat
       exfalso
       apply hat
       have:=(find_live hu).2
       rw[e] at this
       unfold Th.at
       simp
       first
        |exact this
        |(refine⟨?_,this⟩;simpa using(bH.1 (find_live hu).1).2)
        |(refine⟨this,?_⟩;simpa using(bH.1 (find_live hu).1).2)
 ·rename_i h0
  exact⟨s,hf,rfl,id,fun _ _=>h0⟩
def Ey(D:Wd)(L:List Int)(k:Nat):Prop:=∀j,j<k→∀t,D.find (nth L j)=some t→t.mr.dead=false→0<t.mr.refs
theorem Ey.inter(P:Ey D L k)(Nm:fP hold D):Ey (D.inter (nth L k)) L (k+1):=fun j hj s hf hd=>by
 obtain⟨t,ht,e1,e2,e3⟩:=EM (nth L k) hf
 rw[e1]
 by_cases e:j=k
 ·subst e
  have h1:=e3 rfl hd
  unfold Wd.cnt at h1
  rw[ht] at h1
  have h2:=Nm.cnt t (find_live ht).1
  dsimp only at h1
  omega
 ·exact P j (by omega) t ht (e2 hd)
theorem Ey.pos(P:Ey D L L.length)(F:nA L D):di 0 D:=fun t ht hd _=>by
 have hm:(t.h:Int)+1∈L:=by
  rw[←F.refs]
  exact List.mem_map.2 ⟨t,(bH.1 ht).1,rfl⟩
 obtain⟨i,hi,e⟩:=List.getElem_of_mem hm
 have h1:nth L i=(t.h:Int)+1:=by rw[←e];unfold nth;simp[List.getD,hi]
 exact P i hi t (by rw[h1];exact F.san.findIt ht) hd
theorem mI(S:San D):∀n:Nat,San (ak n D)
 |0=>S
 |n+1=>(mI S n).tally
theorem wJ(P:di 0 D)(S:San D):∀n:Nat,di 0 (ak n D)
 |0=>P
 |n+1=>(wJ P S n).tally (mI S n)
theorem vv(P:di 0 D)(S:San D):∀n:Nat,di 0 (aL n D)
 |0=>P
 |n+1=>(vv P S n).aT (lX S n)
theorem TQ.QN(T:TQ N hold D)(P1:di 0 D)(hm:∀j,j<m→(ak j D).bv=true)(hmb:(ak m D).bv=false)(hnb:(aL n ((ak m D).begin 2)).bu=false)(hpot:n+xh (aL n ((ak m D).begin 2))≤xh ((ak m D).begin 2))(M:Mx D fl mk)(hf1:∀x,x∈fl→∃b:Nat,x=(b:Int)+1∧0<hold b)(hf2:∀b:Nat,0<hold b→(b:Int)+1∈fl):
  QF hold mk ((aL n ((ak m D).begin 2)).begin 3)∧OB hold mk ((aL n ((ak m D).begin 2)).begin 3) ((aL n ((ak m D).begin 2)).begin 3)∧Kp Th.dt D (aL n ((ak m D).begin 2))∧Pt D (aL n ((ak m D).begin 2))∧(aL n ((ak m D).begin 2)).n=N∧∀t,t∈(aL n ((ak m D).begin 2)).live→t.h<N:=by
 obtain⟨_,_,_,hcol⟩:=T.fin hm hmb hnb hpot M hf1 hf2
 have hS0:San D:=by
  obtain⟨s,h,f,I⟩:=T.ci
  exact I.san
 have hS1:=mI hS0 m
 have hS2:San ((ak m D).begin 2):=hS1.same_but rfl rfl rfl rfl (fun b hb=>.inl hb)
 have hK:Kp Th.dt D (aL n ((ak m D).begin 2)):=((Kp.ak (fun _ _=>rfl) m D).trans (Kp.ts (D':=(ak m D).begin 2) rfl)).trans (Kp.aL (fun _ _=>rfl) hS2 n)
 have hP1:di 0 (aL n ((ak m D).begin 2)):=vv ((wJ P1 hS0 m).ts (D':=(ak m D).begin 2) rfl) hS2 n
 obtain⟨T2,P2⟩:=T.runN m hm
 generalize ak m D=D2 at*
 obtain⟨s,h,f,I⟩:=T2.ci
 have H:∀b:Nat,0<hold b→mk ((b:Int)+1):=fun b hb=>M.1 _ (hf2 b hb)
 have Q0:FQ N hold mk (D2.begin 2):=⟨I.san.same_but rfl rfl rfl rfl (fun b hb=>.inl hb),T2.fm.Kb I.ph I.n hmb I.hlt,T2.nam.ts rfl,T2.out,rfl,I.n,Int.le_refl _,I.hlt,M.2.1.pt (P2.trans (Pt.ts rfl)),⟨fun x t hf hc=>by
  have h1:=T2.col t (iw hf)
  have h2:t.mr.color=D2.parity:=hc
  have h3:=T2.par
  omega,fun b hb=>by
  have hb:b∈D2.ring:=hb
  rw[T2.ring] at hb
  exact absurd hb (List.not_mem_nil),fun h=>absurd rfl h⟩⟩
 obtain⟨Q,P3⟩:=Q0.runN H n
 have P:Pt D (aL n (D2.begin 2)):=(P2.trans (Pt.ts (D':=D2.begin 2) rfl)).trans P3
 generalize aL n (D2.begin 2)=De at*
 refine⟨⟨H,fun x hx=> ?_,fun x hx=> ?_,fun x t hx hf=>(M.2.1.pt P) x t hx hf⟩,⟨⟨Q.san.same_but rfl rfl rfl rfl (fun b hb=>.inl hb),Q.nam.ts rfl,hP1.ts rfl,Q.out,rfl,fun x t1 _ h1=>⟨t1,h1,rfl⟩⟩,rfl,Int.le_refl _,Int.le_refl _,fun t ht hd hmk i hi hc=> ?_,fun t ht hd hmk _ hc=> ?_⟩,hK,P,Q.n,Q.hlt⟩
 ·obtain⟨t2,h1,h2,h3⟩:=JW Q.san Q.nam Q.fm Q.out Q.ph Q.n hnb Q.hlt mk (M.pt P) hf1 x hx
  exact⟨t2,h1,h3⟩
 ·refine(M.2.2 (fun x=>mk x∧((∃b:Nat,x=(b:Int)+1∧0<hold b)∨∃y t1 i,mk y∧(De.begin 3).find y=some t1∧i<t1.pt.length∧nth t1.pt i=x)) ?_ (fun x hx=>⟨M.1 x hx,.inl (hf1 x hx)⟩) x hx).2
  rintro y t ⟨hy,_⟩ hf i hi h0
  obtain⟨t1,g1,g2,g3,_⟩:=P.some hf
  exact⟨M.2.1 y t hy hf i hi h0,.inr ⟨y,t1,i,hy,g1,by rw[g3];exact hi,by rw[g3]⟩⟩
 ·exfalso
  have e1:(De.begin 3).cursor=0:=rfl
  have e2:(De.begin 3).field=0:=rfl
  rw[e1,e2] at hc
  omega
 ·exact hmk ((hcol _ t (Q.san.findIt ht) hd).1 hc)
end
section
variable {w wr w':World} {p:Pl} {c:Cf} {E E' D D' De:Wd} {L:List Int} {w5:World} {hq q2 N k:Nat} {H:Nat→Value} {m:Int→Bool} {hold:Nat→Nat} {mk:Int→Prop}
theorem Pt.kp(h:Pt D D'):Kp sF D D':=fun q=>by
 have:=congrArg (Option.map (fun s:Nat × List Int × Bool × Int=>s.2.1.length)) (h q)
 rw[Option.map_map,Option.map_map] at this
 exact this
def RM(w:World)(p:Pl)(c:Cf)(E D:Wd)(L:List Int)(w5:World)(hq:Nat)(H:Nat→Value)(q2:Nat)(m:Int→Bool)(wr:World):Prop:=
 RO w p c E D L w5 hq H wr∧Blk wr q2 (ek (fun i=>.bool (m (i:Int))) (c.N+1)) 4∧¬jf p q2
theorem RM.later(h:RM w p c E D L w5 hq H q2 m wr)(hb:Below wr.heap.size wr w'):RM w p c E D L w5 hq H q2 m w':=⟨h.1.later hb,h.2.1.later hb,h.2.2⟩
theorem RM.Hr(h:RM w p c E D L w5 hq H q2 m wr)(hs:RSt w p c E' w')(hT:Touch (inG p) wr w'):RM w p c E' D L w5 hq H q2 m w':=⟨h.1.Hr hs hT,h.2.1.touch hT (fun hx=>h.2.2 (Or.inr hx)),h.2.2⟩
def Sd(w:World)(p:Pl)(N:Nat)(D:Wd)(L:List Int)(w5:World)(hq:Nat)(H:Nat→Value)(q2:Nat)(m:Int→Bool)(hold:Nat→Nat)(De:Wd)(s:Nat)(wr:World):Prop:=
 ∃E,RM w p (cfR N) E D L w5 hq H q2 m wr∧OB hold (fun x=>m x=true) De E∧RP N (N*16) s E∧E.ts.map Th.h=D.ts.map Th.h
def Rv(w:World)(p:Pl)(N:Nat)(D:Wd)(L:List Int)(w5:World)(hq:Nat)(H:Nat→Value)(q2:Nat)(m:Int→Bool)(hold:Nat→Nat)(De:Wd)(k:Nat)(wr:World):Prop:=
 ∃E,RM w p (cfR N) E D L w5 hq H q2 m wr∧RV hold (fun x=>m x=true) De E∧Qt (fun x=>m x=true) E∧E.ts.map Th.h=D.ts.map Th.h∧au pO E.ts≤k
structure Qu (w:World) (p:Pl) (c:Cf) (E D:Wd) (L:List Int) (w5:World) (hq:Nat) (H:Nat→Value) (q2:Nat) (m:Int→Bool) (P Q:List Int) (o J:Nat) (a1 a2 b1 b2:Option Addr) (c1 c2 d1 d2:Nat) (wr:World):Prop where
 rm:RM w p c E D L w5 hq H q2 m wr
 box:Blk wr o #[.slice a1 P.length c1,.slice a2 Q.length c2] 57
 r1:Row wr .i64 a1 P
 r2:Row wr .i64 b1 P
 s1:Row wr .u32 a2 Q
 s2:Row wr .u32 b2 Q
 hj:H (2*J)=.slice b1 P.length d1
 hj2:H (2*J+1)=.slice b2 Q.length d2
 nf:¬jf p o
 f1:∀b off,a1=some ⟨b,off,none⟩→¬jf p b
 f2:∀b off,b1=some ⟨b,off,none⟩→¬jf p b
 f3:∀b off,a2=some ⟨b,off,none⟩→¬jf p b
 f4:∀b off,b2=some ⟨b,off,none⟩→¬jf p b
theorem Qu.pk{P Q:List Int}{o J:Nat}{a1 a2 b1 b2:Option Addr}{c1 c2 d1 d2:Nat}:PK w p c E (Qu w p c E D L w5 hq H q2 m P Q o J a1 a2 b1 b2 c1 c2 d1 d2):=
 ⟨fun a h=>h.rm.1.st,fun a b hb h=>⟨h.rm.later hb,h.box.later hb,h.r1.later hb,h.r2.later hb,h.s1.later hb,h.s2.later hb,h.hj,h.hj2,h.nf,h.f1,h.f2,h.f3,h.f4⟩,fun a b h hs hT=>⟨h.rm.Hr hs hT,h.box.touch hT (fun hx=>h.nf (Or.inr hx)),h.r1.touch hT (fun _ b off e hx=>h.f1 b off e (Or.inr hx)),h.r2.touch hT (fun _ b off e hx=>h.f2 b off e (Or.inr hx)),h.s1.touch hT (fun _ b off e hx=>h.f3 b off e (Or.inr hx)),h.s2.touch hT (fun _ b off e hx=>h.f4 b off e (Or.inr hx)),h.hj,h.hj2,h.nf,h.f1,h.f2,h.f3,h.f4⟩⟩
theorem ui:∀(n:Nat) (D:Wd),(ak n D).ts.map Th.h=D.ts.map Th.h
 |0,D=>rfl
 |n+1,D=>(DW (D:=ak n D)).trans (ui n D)
theorem tH(S:San D):∀{n:Nat},(aL n D).ts.map Th.h=D.ts.map Th.h
 |0=>rfl
 |n+1=>(Ky (lX S n)).trans (tH S)
theorem jE{L:List Oper}{ops:Array Oper}{o og:Oper}{a:Act}{g:Nat}{b:Bool}{t:Tmp}(hops:ops=L.toArray)(hg:o.guard=some (g,b))(h1:L[g]? =some og)(h2:og.dst=some t)(h3:a.tmps[t]? =some undef):Region.wanted o (yielded ops a.tmps)=false:=by
 subst hops
 unfold Region.wanted yielded
 simp[hg,h1,h2,h3,undef]
theorem zO{r:Int}(hf:D.find r=none)(h64:In64 r):Does c D 26 [.int .i64 r] 12 D (.int .i64 0):=fun zs hz R=>by
 have h:=objFns.blocks c zs D.clean D.obs r hz R.heap h64
 have e:blkN D.obs r=0:=by
  unfold blkN
  rw[obAt_find R r,hf]
  rfl
 rw[e] at h
 exact⟨zs,h,R⟩
theorem RM.pk:PK w p c E (RM w p c E D L w5 hq H q2 m):=⟨fun a h=>h.1.st,fun a b hb h=>h.later hb,fun a b h hs hT=>h.Hr hs hT⟩
theorem NJ{P:World→Prop}{args:Array Value}(K:PK w p c D P)(hi:∀u,P u→Calls Tryz.prog 25 args u fun e u'=>e=.returned (.bool true)∧Drw u u')(h:P wr)(hC:(ny K).r wr w'):
  Calls Tryz.prog 25 args w' fun e w''=>e=.returned (.bool true)∧(ny K).r w' w'':=
 (hi w' (hC h)).mono fun e w'' ⟨e1,hd⟩=>⟨e1,fun h=>K.lat _ _ hd.new h⟩
end
set_option maxHeartbeats 4000000 in
theorem wo(n:Nat)(hn:n<256)(a:Option Addr)(cap:Nat)(rs:List (List Fld))(b:Option Addr)(capb:Nat)(es:List (List Fld))(d1:Option Addr)(capd1:Nat)(hs:List Int)(w:World)(h1:rs.length≤30)(h2:es.length≤200)(h3:hs.length≤50)
  (hr:Recs w a [.int .i64,.int .i64] rs) (he:Recs w b [.int .u8,.int .u8,.int .u8] es) (hhs:Row w .u8 d1 hs) (hhk:Bv hs):
  Calls Tryz.prog 4 #[.int .u8 (n:Int),.slice a rs.length cap,.slice b es.length capb,.slice d1 hs.length capd1] w fun e w'=>e=.returned (.bool true)∧Below w.heap.size w w':=by
 have g1:¬30<(rs.length:Int):=by omega
 have g2:¬200<(es.length:Int):=by omega
 have g3:¬50<(hs.length:Int):=by omega
 have hfc0:=bW (((n%60+4:Nat)):Int) 16 1 1
 have hfc1:=jw (((n%60+4:Nat)):Int) 16 1 1
 have HR:=hid hr
 have HE:=hid he
 have HHS:=hid hhs
 have HHK:=hid hhk
 have HLe:Hid (hs.length≤50∧True):=hid ⟨h3,trivial⟩
 have HN63:Hid (n%60+4≤63):=hid (by have:=Nat.mod_lt n (show 0<60 by decide);omega)
 have HGw:=hid (IB (fun _=>JM) n hn a cap rs b capb es w h1 h2 hr he (JM.new _ _) (fun k D x y _ _ _ h=>h.grow x y) (fun D r i x h=>h.tie r i x))
 clear hr he hhs hhk
 generalize n%60+4=N at*
 have hN63:N≤63:=HN63.out
 go_enter Tryz.func4,Tryz.ntmps4
 go_wp2_with fail
 refine HGw.out.mono ?_
 rintro e w1 ⟨p,lo,v,rfl,⟨D,hS,hGr,hLn,hown,hsz,hpn⟩,hP,hlo⟩
 have hin:∀j,j<D.dw.length→In64 (nth D.dw j):=fun j hj=>hGr.vH (by omega) hj
 have hF:FB N D.dw (fun _=>0) 200 D:=FB.of hGr hpn h2 (by omega)
 obtain⟨L,hLe⟩:∃L,L=D.dw:=⟨_,rfl⟩
 rw[←hLe] at hown hin hF hLn
 have hL30:L.length≤30:=by omega
 have hob:=bf hown
 obtain⟨a9,c9,rfl,hr9⟩:=iA.kI hown
 have HR9:=hid hr9.row
 have HX9:Hid (iW (inG p) a9 L):=hid (fun _ b off e hx=>hP b (hob b (by rw[e];rfl)) (Or.inr hx))
 have HIn:=hid hin
 have HH1:Hid (Row w1 .u8 d1 hs):=hid (HHS.out.below hS.below (Nat.le_refl _))
 have HXh:Hid (iW (inG p) d1 hs):=hid (HHS.out.out hS.RJ)
 have HF0:Hid (∃D hold,RSt w p (cfR N) D w1∧FB N L hold (200+0) D):=hid ⟨D,_,hS,hF⟩
 clear hS hGr hLn hown hsz hP hlo hin hF hLe hob hr9 HGw hpn h1 h2 h3
 go_wp2_with fail
 go_loopw [51] (fun i wr=>∃k:Nat,k≤hs.length∧i=.int .i64 (k:Int)∧(∃D hold,RSt w p (cfR N) D wr∧FB N L hold (200+k) D)∧Touch (inG p) w1 wr) (fun i _=>hs.length-(intOf i).toNat)
 case atStart=>exact⟨0,Nat.zero_le _,rfl,HF0.out,Touch.refl _ _⟩
 case round=>
  obtain⟨k,hk,rfl,⟨D,hold,hS,hF⟩,hT⟩:=hrel
  have HS:=hid hS
  have HF:=hid hF
  have HT:=hid hT
  by_cases hlt:k<hs.length
  ·have hkx:=HHK.out k
   obtain⟨bk,ok,rfl,hbk,hck⟩:=(HH1.out.touch hT HXh.out) k hlt
   obtain⟨x,hx⟩:∃x:Nat,nth hs k=(x:Int):=⟨(nth hs k).toNat,by omega⟩
   rw[hx] at hck hkx
   by_cases hn0:L.length=0
   ·have hg:¬(0:Int)<(L.length:Int):=by omega
    clear hS hF hT hx
    go_wp2_with fail
    go_roundw
    case rel=>exact⟨k+1,by omega,by go_num,⟨D,hold,HS.out,HF.out.up⟩,HT.out⟩
    case measure=>simp[intOf];omega
   ·have hg:(0:Int)<(L.length:Int):=by omega
    have hnb:((L.length:Int)==0)=false:=by rw[beq_eq_false_iff_ne];omega
    obtain⟨t,et,ht⟩:∃t:Nat,Int.tmod (x:Int) (L.length:Int)=(t:Int)∧t<L.length:=⟨x%L.length,by rw[Int.tmod_eq_emod_of_nonneg (by omega)];rfl,Nat.mod_lt _ (by omega)⟩
    obtain⟨b9,o9,rfl,hb9,hc9⟩:=(HR9.out.touch hT HX9.out) t ht
    have h64:=HIn.out t ht
    obtain⟨u,hu⟩:=hF.fin.find ht
    have HL50:=HLe.out.1
    generalize nth L t=r at*
    cases hd:u.mr.dead with
    |true=>
     have HI:=hid (ld_Hold_no (c:=cfR N) h64 (show D.aliveB r=false by unfold Wd.aliveB Wd.dead;rw[hu];simp[hd]))
     clear hS hF hT hx hu hd
     go_wp2_with fail
     refine(HS.out.does HI.out).mono ?_
     rintro e w2 ⟨rfl,hS2,hT2⟩
     have HS2:=hid hS2
     have HT2:=hid (HT.out.trans hT2)
     clear hS2 hT2
     go_wp2_with fail
     go_roundw
     case rel=>exact⟨k+1,by omega,by go_num,⟨_,_,HS2.out,HF.out.up⟩,HT2.out⟩
     case measure=>simp[intOf];omega
    |false=>
     have HI:=hid (ld_Hold (c:=cfR N) hu hd (by have:=(hF.pi.bd r u hu).1;omega))
     have HF2:=hid (hF.held hu hd)
     clear hS hF hT hx hu hd
     go_wp2_with fail
     refine(HS.out.does HI.out).mono ?_
     rintro e w2 ⟨rfl,hS2,hT2⟩
     have HS2:=hid hS2
     have HT2:=hid (HT.out.trans hT2)
     clear hS2 hT2
     go_wp2_with fail
     go_roundw
     case rel=>
      obtain⟨hold2,hF2⟩:=HF2.out
      exact⟨k+1,by omega,by go_num,⟨_,hold2,HS2.out,hF2⟩,HT2.out⟩
     case measure=>simp[intOf];omega
  ·have HF1:Hid (∃D hold,(RSt w p (cfR N) D wr∧FB N L hold 250 D)∧Ey D L 0):=hid ⟨D,hold,⟨hS,⟨hF.fin,hF.nam,hF.out,hF.col,hF.ph,hF.ring,hF.pi.mono (by have:=HLe.out.1;omega)⟩⟩,fun j hj=>absurd hj (Nat.not_lt_zero _)⟩
   clear hS hF HS HF
   go_wp2_with fail
   go_loopw [71] (fun i wr=>∃k:Nat,k≤L.length∧i=.int .i64 (k:Int)∧(∃D hold,(RSt w p (cfR N) D wr∧FB N L hold 250 D)∧Ey D L k)∧Touch (inG p) w1 wr) (fun i _=>L.length-(intOf i).toNat)
   case atStart=>exact⟨0,Nat.zero_le _,rfl,HF1.out,HT.out⟩
   case round=>
    obtain⟨k,hk,rfl,⟨D,hold,⟨hS,hF⟩,hPk⟩,hT⟩:=hrel
    have HS:=hid hS
    have HF:=hid hF
    have HT:=hid hT
    by_cases hlt:k<L.length
    ·obtain⟨b9,o9,rfl,hb9,hc9⟩:=(HR9.out.touch hT HX9.out) k hlt
     have hpb:=hS.vZ hF.fin.san
     have HI:=hid (vD (c:=cfR N) (D:=D) (HIn.out k hlt) hpb.1 hpb.2)
     have HF2:=hid (hF.inter (nth L k))
     have HP2:=hid (hPk.inter hF.nam)
     generalize nth L k=r at*
     clear hS hF hT hpb hPk
     go_wp2_with fail
     refine(HS.out.does HI.out).mono ?_
     rintro e w2 ⟨rfl,hS2,hT2⟩
     have HS2:=hid hS2
     have HT2:=hid (HT.out.trans hT2)
     clear hS2 hT2
     go_wp2_with fail
     go_roundw
     case rel=>exact⟨k+1,by omega,by go_num,⟨_,_,⟨HS2.out,HF2.out⟩,HP2.out⟩,HT2.out⟩
     case measure=>simp[intOf];omega
    ·obtain rfl:k=L.length:=by omega
     have HOu:=hid (xH hS hF.fin hF.nam (by omega) a9 c9 (HR9.out.touch hT HX9.out) HX9.out hL30)
     have HR5:=hid (HR9.out.touch hT HX9.out)
     have HNG:Hid (∀b,wr.heap.size≤b→¬jf p b):=hid (fun b hb=>hS.xG hb)
     have HPo:=hid (hPk.pos hF.fin)
     have HSu:Hid (N+gU sF D N≤N*16):=hid (by
      have h1:=hF.fin.len hS.w16
      have h2:=hS.total hF.fin.san
      have h3:(cfR N).N=N:=rfl
      have h4:gU sF D N=au sF D.ts:=Mc hF.fin.san (fun t ht=>by
       obtain⟨zs,mm,_,hR,_⟩:=hS
       exact hR.hlt ht)
      have h5:au sF D.ts=au (fun t=>t.pt.length) D.ts:=rfl
      omega)
     clear hS hF hT hPk HS HT
     go_wp2_with fail
     generalize hw5:wr=w5 at*
     clear hw5
     refine HOu.out.mono ?_
     rintro e w2 ⟨a3,cap3,fl,hq,H,rfl,hrow,hfl,hc1,hc2,hS2,hT2,hB2,hD2,hq2⟩
     have HRe:=hid (Dp hS2 HF.out.fin.san HF.out.nam (by show N≤1000;omega) a3 cap3 fl hrow (fun x hx=>by
      obtain⟨t,ht,_⟩:=hc1 x hx
      exact⟨t,ht⟩) (by omega))
     have HO2:Hid (RO w p (cfR N) D D L w5 hq H w2):=hid ⟨hS2,hT2,hB2,hD2,hq2,HNG.out⟩
     have HJs:Hid (∀j,j<L.length→∃J:Nat,nth L j=(J:Int)∧1≤J∧J≤N):=hid (fun j hj=>by
      obtain⟨t,ht⟩:=HF.out.fin.find hj
      exact RSt.xJ hS2 ht)
     have HFl:Hid ((∀x,x∈fl→∃b:Nat,x=(b:Int)+1∧0<hold b)∧∀b:Nat,0<hold b→(b:Int)+1∈fl):=hid ⟨fun x hx=>by
      obtain⟨t,ht,hd,hlt⟩:=hc1 x hx
      obtain⟨htl,er⟩:=find_live ht
      have h1:=HF.out.nam.cnt t htl
      rw[er] at h1
      exact⟨t.h,er.symm,by omega⟩,fun b hb=>by
      obtain⟨t,ht,hd,htl,rfl⟩:=zY HF.out.fin.san HF.out.nam HF.out.out hb
      refine hc2 _ ?_ ⟨t,ht,hd,?_⟩
      ·rw[←HF.out.fin.refs]
       exact List.mem_map.2 ⟨t,(bH.1 htl).1,rfl⟩
      ·have h1:=HF.out.nam.cnt t htl
       omega⟩
     clear hrow hfl hc1 hc2 hS2 hT2 hB2 hD2 hq2 HOu
     go_wp2_with fail
     refine HRe.out.mono ?_
     rintro e w3 ⟨q2,m,rfl,hq2,hb2,hB2,hmk⟩
     have HM3:Hid (RM w p (cfR N) D D L w5 hq H q2 m w3):=hid ⟨HO2.out.later hB2,hb2,HO2.out.st.xG hq2⟩
     have HTQ:=hid (HF.out.tq HM3.out.1.st)
     have HMk:Hid (Mx (D.turn.begin 1) fl (fun x=>m x=true)):=hid (hmk.pt (Pt.ts rfl))
     have HRu:=hid (GZ HM3.out.1.st HF.out.pi (by omega) (by show N≤1000;omega))
     have hn1:(cfR N).N=N:=rfl
     clear hb2 hB2 hmk hq2
     go_wp2_with fail
     refine HRu.out.mono ?_
     rintro e w4 ⟨mm,nn,rfl,k1,k2,k3,k4,k5,k6,k7,k8⟩
     obtain⟨x1,x2,x3,x4,x5,x6⟩:=HTQ.out.QN (HPo.out.ts (D':=D.turn.begin 1) rfl) k1 k2 k4 k5 HMk.out HFl.out.1 HFl.out.2
     have x7:=tH (n:=nn) (show San ((ak mm (D.turn.begin 1)).begin 2) from(mI (show San (D.turn.begin 1) from HF.out.fin.san.same_but rfl rfl rfl rfl (fun b hb=>.inl hb)) mm).same_but rfl rfl rfl rfl (fun b hb=>.inl hb))
     have x8:(aL nn ((ak mm (D.turn.begin 1)).begin 2)).ts.map Th.h=D.ts.map Th.h:=x7.trans (ui mm (D.turn.begin 1))
     clear x7
     generalize aL nn ((ak mm (D.turn.begin 1)).begin 2)=De at*
     have HM4:Hid (RM w p (cfR N) De D L w5 hq H q2 m w4):=hid (HM3.out.Hr k6 k8)
     have HB:=hid x1
     have HKe:Hid (∀x t1,(De.begin 3).find x=some t1→∃t,D.find x=some t∧t1.pt=t.pt∧t1.dt=t.dt∧(t1.mr.dead=false→t.mr.dead=false)):=hid (fun x t1 h1=>by
      obtain⟨u,hu,e⟩:=x3.some (show De.find x=some t1 from h1)
      obtain⟨u2,hu2,e2,e3,e4,_⟩:=x4.symm.some (show De.find x=some t1 from h1)
      have hu:D.find x=some u:=hu
      have hu2:D.find x=some u2:=hu2
      rw[hu] at hu2
      cases hu2
      exact⟨u,hu,e3.symm,e,fun h=>e4.trans h⟩)
     have HV1:=hid x2.v
     have HLv:Hid (OB hold (fun x=>m x=true) (De.begin 3) (De.begin 3)):=hid x2
     have HRP:Hid (RP N (N*16) 0 (De.begin 3)):=hid (RP.start (by
      have h1:=(show Kp sF D (De.begin 3) from fun q=>x4.kp q).gU N
      rw[h1]
      exact HSu.out) rfl rfl)
     have HHd:Hid ((De.begin 3).ts.map Th.h=D.ts.map Th.h):=hid x8
     have HBe:=hid (ld_begin (c:=cfR N) (D:=De) 3 (by decide) (by decide))
     clear k1 k2 k3 k4 k5 k6 k7 k8 x1 x2 x3 x4 x5 x6 x8 HRu HRe HTQ HM3 HO2
     go_wp2_with fail
     refine(HM4.out.1.st.does HBe.out).mono ?_
     rintro e w6 ⟨rfl,hS6,hT6⟩
     have HR6:Hid (Sd w p N D L w5 hq H q2 m hold (De.begin 3) 0 w6):=hid ⟨De.begin 3,HM4.out.Hr hS6 hT6,HLv.out,HRP.out,HHd.out⟩
     clear hS6 hT6 HM4 HBe HLv HRP HHd
     generalize De.begin 3=D1 at*
     go_wp2_with fail
     go_loopw [19] (fun i wr=>∃k:Nat,i=.int .i64 (k:Int)∧Sd w p N D L w5 hq H q2 m hold D1 k wr) (fun i _=>N*16+1-(intOf i).toNat)
     case atStart=>exact⟨0,rfl,HR6.out⟩
     case round=>
      obtain⟨k,rfl,⟨E,hM,hLv,hRP,hHd⟩⟩:=hrel
      have HM:=hid hM
      have HLv:=hid hLv
      have HRP:=hid hRP
      have HHd:=hid hHd
      have hEn:E.n=N:=by
       obtain⟨zs,mm,_,hR,_⟩:=hM.1.st
       exact hR.n
      have hElt:∀t,t∈E.live→t.h<N:=fun t ht=>by
       obtain⟨zs,mm,_,hR,_⟩:=hM.1.st
       exact hR.hlt ht
      have hle:=hRP.le
      cases hb:E.reapB with
      |true=>
       have HI:=hid ((ld_reap (c:=cfR N) hLv.v.san).as (vb hb) rfl)
       have HLv2:=hid (hLv.reap HB.out hb)
       have hRP2:=hRP.step hEn hb
       have hle2:=hRP2.le
       have HRP2:=hid hRP2
       have HHd2:Hid (E.reap.ts.map Th.h=D.ts.map Th.h):=hid ((NQ hLv.fi).trans hHd)
       have hwk:IntKind.i64.wrap ((k:Int)+1)=(k:Int)+1:=IntWalk.i64_in _ (by omega)
       clear hM hLv hRP hHd hEn hElt hb hRP2
       go_wp2_with fail
       refine(HM.out.1.st.does HI.out).mono ?_
       rintro e w7 ⟨rfl,hS7,hT7⟩
       have HM7:=hid (HM.out.Hr hS7 hT7)
       clear hS7 hT7
       go_wp2_with fail
       go_roundw
       case rel=>exact⟨k+1,by go_num,⟨_,HM7.out,HLv2.out,HRP2.out,HHd2.out⟩⟩
       case measure=>simp[intOf];omega
      |false=>
       have HI:=hid ((ld_reap (c:=cfR N) hLv.v.san).as (vb hb) (reap_idle hb))
       have HEm:=hid (hLv.Kq hEn hb hElt)
       clear hM hLv hRP hHd hEn hElt hb HR6
       go_wp2_with fail
       refine(HM.out.1.st.does HI.out).mono ?_
       rintro e w7 ⟨rfl,hS7,hT7⟩
       have HG0:Hid (∃k,Rv w p N D L w5 hq H q2 m hold D1 k w7):=hid ⟨_,E,HM.out.Hr hS7 hT7,HLv.out.v,HEm.out,HHd.out,Nat.le_refl _⟩
       clear hS7 hT7 HM HLv HEm HHd HRP
       obtain⟨μ,hμ⟩:=Cw (Rv w p N D L w5 hq H q2 m hold D1)
       have HMu:=hid hμ
       clear hμ
       go_wp2_with fail
       generalize hw7:w7=wy at*
       clear hw7
       go_loopw [] (fun wx=>∃k,Rv w p N D L w5 hq H q2 m hold D1 k wx) (fun wx=>μ wx)
       case atStart=>exact HG0.out
       case round=>
        obtain⟨k0,hk0⟩:=hrel
        obtain⟨⟨E,hM,hV,hE,hHd,hwt⟩,h00⟩:=HMu.out wr k0 hk0
        clear h00 hk0 k0
        have HM:=hid hM
        cases hg:E.grave with
        |cons g rest=>
         have hw2:=hV.san.Og (by rw[hg];simp)
         have HStp:=hid ((gd_Step (c:=cfR N) hV.san).as (vb (show(!E.grave.isEmpty)=true by rw[hg];rfl)) rfl)
         obtain⟨k2,hk2⟩:∃k2,k2+1=μ wr:=⟨μ wr-1,by omega⟩
         have HK2:=hid hk2
         have HV2:=hid (hV.step HB.out)
         have HE2:=hid (hE.step hV.san)
         have HHd2:Hid (E.step.ts.map Th.h=D.ts.map Th.h):=hid (Oe.trans hHd)
         have HW2:Hid (au pO E.step.ts≤k2):=hid (by omega)
         clear hM hV hE hHd hwt hw2 hg hk2
         go_wp2_with fail
         refine(HM.out.1.st.does HStp.out).mono ?_
         rintro e w8 ⟨rfl,hS8,hT8⟩
         have HG8:Hid (Rv w p N D L w5 hq H q2 m hold D1 k2 w8):=hid ⟨_,HM.out.Hr hS8 hT8,HV2.out,HE2.out,HHd2.out,HW2.out⟩
         clear hS8 hT8
         go_wp2_with fail
         go_roundw
         case rel=>exact⟨k2,HG8.out⟩
         case measure=>
          have h1:=(HMu.out w8 k2 HG8.out).2
          have h2:=HK2.out
          omega
        |nil=>
         have HStp:=hid ((gd_Step (c:=cfR N) hV.san).as (vb (show(!E.grave.isEmpty)=false by rw[hg];rfl)) (show E.step=E by unfold Wd.step;rw[hg]))
         have HFi:Hid (∀t,t∈E.live→m ((t.h:Int)+1)=true∧t.mr.dead=false):=hid (fun t ht=>hV.fin HB.out hE hg ht)
         have HV:=hid hV
         have hrf:E.dw=L:=(qX hHd).trans HF.out.fin.refs
         have hnd:(E.ts.map Th.h).Nodup:=by rw[hHd];exact HF.out.fin.nd
         have htot:=hM.1.st.total hV.san
         rw[show(cfR N).N=N from rfl] at htot
         have HTo:Hid (E.clean.length+nz (oZ occT E) L L.length=N):=hid (by
          have h1:=wH hnd occT
          rw[hrf] at h1
          rw[h1]
          exact htot)
         clear hM hV hE hHd hwt hg htot hrf hnd HG0 HMu
         go_wp2_with fail
         refine(HM.out.1.st.does HStp.out).mono ?_
         rintro e w8 ⟨rfl,hS8,hT8⟩
         have HM8:=hid (HM.out.Hr hS8 hT8)
         clear hS8 hT8
         go_wp2_with fail
         go_loopw [20,100] (fun x i wr=>∃j v:Nat,j≤L.length∧v=nz (oZ occT E) L j∧x=.int .i64 (v:Int)∧i=.int .i64 (j:Int)∧RM w p (cfR N) E D L w5 hq H q2 m wr) (fun _ i _=>L.length-(intOf i).toNat)
         case atStart=>exact⟨0,0,Nat.zero_le _,(zl _ _).symm,rfl,rfl,HM8.out⟩
         case round=>
          obtain⟨j,v,hj,hv,rfl,rfl,hM⟩:=hrel
          have HM9:=hid hM
          have HVe:=hid hv
          have hlen:v≤63:=by
           have h1:=AQ (oZ occT E) L hj
           have h2:=HTo.out
           omega
          by_cases hlt:j<L.length
          ·obtain⟨b9,o9,rfl,hb9,hc9⟩:=(HR5.out.touch hM.1.tc HX9.out) j hlt
           obtain⟨t0,hf0⟩:=HF.out.fin.find hlt
           obtain⟨J,hJ,hJ1,hJN⟩:=HJs.out j hlt
           have hsu:=sK (oZ occT E) hlt
           have hmx:nz (oZ occT E) L (j+1)≤63:=by
            have h1:=AQ (oZ occT E) L (show j+1≤L.length by omega)
            have h2:=HTo.out
            omega
           have hhd:=hM.1.hd j hlt t0 hf0
           have HNw:Hid (w5.heap.size≤wr.heap.size):=hid hM.1.tc.size
           rw[hJ] at hsu hc9 hf0 hhd
           have h64:In64 (J:Int):=by unfold In64;omega
           have hjl:J<N+1:=by omega
           have hji:(J:Int)<(N:Int)+1:=by omega
           have hj0:(0:Int)≤(J:Int):=by omega
           cases hf:E.find (J:Int) with
           |none=>
            have hmv:m (J:Int)=false:=by
             cases h:m (J:Int) with
             |false=>rfl
             |true=>
              obtain⟨t1,h1,_⟩:=HB.out.h2 _ h
              obtain⟨t,ht,_⟩:=HV.out.kp _ t1 h h1
              rw[hf] at ht
              cases ht
            have HSe:=hid (Iy (c:=cfR N) hf h64 hM.1.st)
            have HBk:=hid (zO (c:=cfR N) hf h64)
            have HM2:Hid (v=nz (oZ occT E) L (j+1)):=hid (by rw[hsu,show oZ occT E (J:Int)=0 by unfold oZ;rw[hf],hv];rfl)
            have HMv:=hid hmv
            clear hM hv hsu hmx hf hf0 hJ hhd hmv h64
            go_wp2_with fail
            refine HSe.out.mono ?_
            rintro e w10 ⟨rfl,hb10⟩
            have HMa:=hid (HM9.out.later (below_step hb10 (below_new w10 (.cells #[.slice none 0 0,.slice none 0 0] 57))))
            have KP:=hid (RM.pk (w:=w) (p:=p) (c:=cfR N) (E:=E) (D:=D) (L:=L) (w5:=w5) (hq:=hq) (H:=H) (q2:=q2) (m:=m))
            clear hb10
            go_wp2_with fail
            generalize w10.alloc _=w11 at*
            generalize w10.heap.size=o at*
            have HC0:∀w',(ny KP.out).r w11 w'→w'.cell? ⟨q2,J,none⟩=some (.bool false):=fun w' hC=>by
             rw[←HMv.out]
             exact(hC HMa.out).2.1.arr (show J<(cfR N).N+1 by omega)
            refine TX.bB (T:=ny KP.out) [TX.af.is (.bool false),TX.af.is (.slice (some ⟨q2,0,none⟩) (N+1) (N+1)),TX.af.is (.int .i64 (J:Int)),TX.af.is (.pointer (some ⟨q2,J,none⟩)),TX.af.is (.bool false),TX.af.is (.bool false),TX.af.is (.bool false),TX.af.is (.bool false),TX.af.is (.bool false),TX.af.is undef,TX.af.is undef,TX.af.is undef,TX.af.is undef,TX.af.is undef,TX.af.is undef,TX.af.is undef,TX.af.is undef,TX.af.is undef,TX.af.is undef,TX.af.is undef,TX.af.is undef,TX.af.is undef,TX.af.is undef,TX.af.is undef,TX.af.is undef,TX.af.is undef,TX.af.is undef,TX.af.is undef,TX.af.is undef,TX.af.is (.bool false),TX.af.is (.bool false)] (by kernel_rfl) (by kernel_rfl) rfl (by kernel_rfl) (fun ops K2 hops hK=> ?_)
            refine TX.aa (TX.ae rfl) (fun w' hC hd=>TX.aj _ (.inl rfl) rfl) (by go_frame;rfl) (by simp only[List.nil_append,List.cons_append];rfl) ?_
            refine TX.aa (TX.ae rfl) (fun w' hC hd=>TX.aj _ (.inl rfl) rfl) (by go_frame;rfl) (by simp only[List.nil_append,List.cons_append];rfl) ?_
            refine TX.aa (TX.ae rfl) (fun w' hC hd=>TX.aj _ (.inl rfl) rfl) (by go_frame;rfl) (by simp only[List.nil_append,List.cons_append];rfl) ?_
            refine TX.aa (TX.ae rfl) (fun w' hC hd=>TX.bP 111 (.slice (some ⟨q2,0,none⟩) (N+1) (N+1)) 112 (.int .i64 (J:Int)) rfl rfl (fun ρ hρ hf e0 e1=>TX.ay (by go_simp))) (by go_frame;rfl) (by simp only[List.nil_append,List.cons_append];rfl) ?_
            refine TX.aa (TX.ae rfl) (fun w' hC hd=>TX.aD 113 (.pointer (some ⟨q2,J,none⟩)) rfl (fun ρ hρ hf e0=>TX.ay (by have hc0:=HC0 w' hC;go_simp))) (by go_frame;rfl) (by simp only[List.nil_append,List.cons_append];rfl) ?_
            refine TX.aa (TX.ae rfl) (fun w' hC hd=>TX.bP 110 (.bool false) 114 (.bool false) rfl rfl (fun ρ hρ hf e0 e1=>TX.ay (by have hb0:=True.intro;go_simp))) (by go_frame;rfl) (by simp only[List.nil_append,List.cons_append];rfl) ?_
            refine TX.aa (TX.ae rfl) (fun w' hC hd=>TX.aj _ (.inl rfl) rfl) (by go_frame;rfl) (by simp only[List.nil_append,List.cons_append];rfl) ?_
            refine TX.aa (TX.aA hops rfl rfl rfl rfl) (fun w' hC hd=>TX.aj _ (.inl rfl) rfl) (by go_frame;rfl) (by simp only[List.nil_append,List.cons_append];rfl) ?_
            refine TX.aa (TX.aA hops rfl rfl rfl rfl) (fun w' hC hd=>TX.aj _ (.inl rfl) rfl) (by go_frame;rfl) (by simp only[List.nil_append,List.cons_append];rfl) ?_
            refine TX.aG (TX.dn hops rfl rfl rfl rfl) (by go_frame;rfl) (by simp only[List.nil_append,List.cons_append];rfl) ?_
            refine TX.aG (TX.dn hops rfl rfl rfl rfl) (by go_frame;rfl) (by simp only[List.nil_append,List.cons_append];rfl) ?_
            refine TX.aG (TX.dn hops rfl rfl rfl rfl) (by go_frame;rfl) (by simp only[List.nil_append,List.cons_append];rfl) ?_
            refine TX.aG (TX.dn hops rfl rfl rfl rfl) (by go_frame;rfl) (by simp only[List.nil_append,List.cons_append];rfl) ?_
            refine TX.aG (TX.dn hops rfl rfl rfl rfl) (by go_frame;rfl) (by simp only[List.nil_append,List.cons_append];rfl) ?_
            refine TX.aG (TX.dn hops rfl rfl rfl rfl) (by go_frame;rfl) (by simp only[List.nil_append,List.cons_append];rfl) ?_
            refine TX.aG (TX.dn hops rfl rfl rfl rfl) (by go_frame;rfl) (by simp only[List.nil_append,List.cons_append];rfl) ?_
            refine TX.aG (TX.dn hops rfl rfl rfl rfl) (by go_frame;rfl) (by simp only[List.nil_append,List.cons_append];rfl) ?_
            refine TX.aG (TX.dn hops rfl rfl rfl rfl) (by go_frame;rfl) (by simp only[List.nil_append,List.cons_append];rfl) ?_
            refine TX.aG (TX.dn hops rfl rfl rfl rfl) (by go_frame;rfl) (by simp only[List.nil_append,List.cons_append];rfl) ?_
            refine TX.aG (jE hops rfl rfl rfl rfl) (by go_frame;rfl) (by simp only[List.nil_append,List.cons_append];rfl) ?_
            refine TX.aG (jE hops rfl rfl rfl rfl) (by go_frame;rfl) (by simp only[List.nil_append,List.cons_append];rfl) ?_
            refine TX.aG (jE hops rfl rfl rfl rfl) (by go_frame;rfl) (by simp only[List.nil_append,List.cons_append];rfl) ?_
            refine TX.aG (jE hops rfl rfl rfl rfl) (by go_frame;rfl) (by simp only[List.nil_append,List.cons_append];rfl) ?_
            refine TX.aG (jE hops rfl rfl rfl rfl) (by go_frame;rfl) (by simp only[List.nil_append,List.cons_append];rfl) ?_
            refine TX.aG (jE hops rfl rfl rfl rfl) (by go_frame;rfl) (by simp only[List.nil_append,List.cons_append];rfl) ?_
            refine TX.aG (jE hops rfl rfl rfl rfl) (by go_frame;rfl) (by simp only[List.nil_append,List.cons_append];rfl) ?_
            refine TX.aG (jE hops rfl rfl rfl rfl) (by go_frame;rfl) (by simp only[List.nil_append,List.cons_append];rfl) ?_
            refine TX.aG (jE hops rfl rfl rfl rfl) (by go_frame;rfl) (by simp only[List.nil_append,List.cons_append];rfl) ?_
            refine TX.aG (TX.dn hops rfl rfl rfl rfl) (by go_frame;rfl) (by simp only[List.nil_append,List.cons_append];rfl) ?_
            refine TX.aa (TX.aA hops rfl rfl rfl rfl) (fun w' hC hd=>TX.dZ _ _ _ false rfl rfl rfl) (by go_frame;rfl) (by simp only[List.nil_append,List.cons_append];rfl) ?_
            refine TX.aa (TX.ae rfl) (fun w' hC hd=>TX.dZ _ _ _ false rfl rfl rfl) (by go_frame;rfl) (by simp only[List.nil_append,List.cons_append];rfl) ?_
            refine TX.fJ (fun w2 hC hk=>hK _ _ ?_)
            have HS9:=hid (hC HMa.out)
            clear hC hk hK
            have HS10:=hid (HS9.out)
            clear HS9 HC0
            go_wp2_with fail
            refine(HS10.out.1.st.does HBk.out).mono ?_
            rintro e w12 ⟨rfl,hS12,hT12⟩
            have HS12:=hid (HS10.out.Hr hS12 hT12)
            clear hS12 hT12
            go_wp2_with fail
            go_roundw
            case rel=>exact⟨j+1,v,by omega,HM2.out,by go_num,by go_num,HS12.out⟩
            case measure=>simp[intOf];omega
           |some t=>
            obtain⟨htl,er⟩:=find_live hf
            obtain⟨hmv,hd⟩:=HFi.out t htl
            rw[er] at hmv
            obtain⟨t1,h1,_⟩:=HB.out.h2 _ hmv
            obtain⟨t',ht',es⟩:=HV.out.kp _ t1 hmv h1
            rw[hf] at ht'
            cases ht'
            obtain⟨_,ep,ed,_,_⟩:=kQ es
            obtain⟨t0',hf0',ep2,ed2,hdd⟩:=HKe.out _ t1 h1
            rw[hf0] at hf0'
            cases hf0'
            obtain⟨b1,d1',b2,d2',e1,e2,q1,q2',g1,g2⟩:=hhd
            have q2x:=q2' (hdd (HV1.out.alive HB.out hmv h1))
            rw[←ep2,←ep] at e1 q1
            rw[←ed2,←ed] at e2 q2x
            have HSe:=hid (Gy (c:=cfR N) HV.out.san hf hM.1.st)
            have HBk:=hid (gd_blocks (c:=cfR N) hf hd)
            have hat:oZ occT E (J:Int)=occT t:=by unfold oZ;rw[hf]
            have HM2:Hid (v+occT t=nz (oZ occT E) L (j+1)):=hid (by rw[hsu,hat,hv])
            have hmo:v+occT t≤63:=by rw[HM2.out];exact hmx
            have hpl:t.pt.length+t.dt.length≤1000:=by
             have hg:=(HV.out.san.ok t htl).ql
             have hw:E.w=16:=hM.1.st.w16
             have ho:occT t=1+t.lv.length:=by
              unfold occT
              rw[hd]
              simp
             rw[hw] at hg
             by_cases hs:t.pt.length+t.dt.length≤16-8
             ·omega
             ·have h1:=(hg.big hs).2
              have h2:t.lv.length≤62:=by omega
              have h3:t.lv.length*(16-1)≤62*15:=Nat.mul_le_mul_right 15 h2
              omega
            have HG1:Hid (∀b off,b1=some ⟨b,off,none⟩→¬jf p b):=hid (fun b off e=>hM.1.ng b (g1 b off e))
            have HG2:Hid (∀b off,b2=some ⟨b,off,none⟩→¬jf p b):=hid (fun b off e=>hM.1.ng b (g2 b off e))
            have HQ1:=hid q1
            have HQ2:=hid q2x
            have HE1:Hid (H (2*J)=.slice b1 t.pt.length d1'∧H (2*J+1)=.slice b2 t.dt.length d2'):=hid ⟨by rw[←e1];congr 1,by rw[←e2];congr 1⟩
            have HSeD:=hid (hd)
            have HLp:Hid (t.pt.length≤10000∧t.dt.length≤10000):=hid (by omega)
            have HMv:=hid hmv
            generalize occT t=oc at*
            clear hM hv hsu hmx hf hf0 hJ hmv h64 htl er hd h1 es ep ed ep2 ed2 hdd e1 e2 q1 q2' q2x g1 g2 hat hpl
            go_wp2_with fail
            refine HSe.out.mono ?_
            rintro e w10 ⟨a1,c1,a2,c2,rfl,r1,r2,f1,f2,hb5⟩
            have hbx:=Blk.new w10 #[.slice a1 t.pt.length c1,.slice a2 t.dt.length c2] 57
            have hb6:=below_step hb5 (below_new w10 (.cells #[.slice a1 t.pt.length c1,.slice a2 t.dt.length c2] 57))
            have HR6:Hid (Qu w p (cfR N) E D L w5 hq H q2 m t.pt t.dt w10.heap.size J a1 a2 b1 b2 c1 c2 d1' d2' (w10.alloc (.cells #[.slice a1 t.pt.length c1,.slice a2 t.dt.length c2] 57))):=hid ⟨HM9.out.later hb6,hbx,r1.later (below_new _ _),HQ1.out.later hb6,(r2 HSeD.out).later (below_new _ _),HQ2.out.later hb6,HE1.out.1,HE1.out.2,HM9.out.1.ng _ (by have:=HNw.out;have:=hb5.size;omega),fun b off e=>HM9.out.1.ng _ (by have:=HNw.out;have:=f1 b off e;omega),HG1.out,fun b off e=>HM9.out.1.ng _ (by have:=HNw.out;have:=f2 b off e;omega),HG2.out⟩
            have KP:=hid (Qu.pk (w:=w) (p:=p) (c:=cfR N) (E:=E) (D:=D) (L:=L) (w5:=w5) (hq:=hq) (H:=H) (q2:=q2) (m:=m) (P:=t.pt) (Q:=t.dt) (o:=w10.heap.size) (J:=J) (a1:=a1) (a2:=a2) (b1:=b1) (b2:=b2) (c1:=c1) (c2:=c2) (d1:=d1') (d2:=d2'))
            have HIi:∀u,Qu w p (cfR N) E D L w5 hq H q2 m t.pt t.dt w10.heap.size J a1 a2 b1 b2 c1 c2 d1' d2' u→Calls Tryz.prog 24 #[.slice a1 t.pt.length c1,.slice b1 t.pt.length d1'] u fun e u'=>e=.returned (.bool true)∧Drw u u':=fun u hu=>Ps a1 b1 _ c1 d1' u rfl hu.r1 hu.r2 HLp.out.1
            have HIs:∀u,Qu w p (cfR N) E D L w5 hq H q2 m t.pt t.dt w10.heap.size J a1 a2 b1 b2 c1 c2 d1' d2' u→Calls Tryz.prog 25 #[.slice a2 t.dt.length c2,.slice b2 t.dt.length d2'] u fun e u'=>e=.returned (.bool true)∧Drw u u':=fun u hu=>LV _ a2 b2 _ c2 d2' u rfl hu.s1 hu.s2 (by have:=HLp.out.2;unfold maxLen;omega)
            clear r1 r2 f1 f2 hb5 hb6 hbx
            go_wp2_with fail
            generalize w10.alloc _=w11 at*
            generalize w10.heap.size=o at*
            have HC0:∀w',(ny KP.out).r w11 w'→w'.cell? ⟨q2,J,none⟩=some (.bool true):=fun w' hC=>by
             rw[←HMv.out]
             exact(hC HR6.out).rm.2.1.arr (show J<(cfR N).N+1 by omega)
            have HC1:∀w',(ny KP.out).r w11 w'→w'.cell? ⟨o,0,none⟩=some (.slice a1 t.pt.length c1):=fun w' hC=>(hC HR6.out).box.cell 0 rfl
            have HC2:∀w',(ny KP.out).r w11 w'→w'.cell? ⟨o,1,none⟩=some (.slice a2 t.dt.length c2):=fun w' hC=>(hC HR6.out).box.cell 1 rfl
            have HC3:∀w',(ny KP.out).r w11 w'→w'.cell? ⟨hq,J*2,none⟩=some (.slice b1 t.pt.length d1'):=fun w' hC=>by
             rw[(hC HR6.out).rm.1.hb.arr (show J*2<2*((cfR N).N+1) by show J*2<2*(N+1);omega),Nat.mul_comm J 2,(hC HR6.out).hj]
            have HC4:∀w',(ny KP.out).r w11 w'→w'.cell? ⟨hq,J*2+1,none⟩=some (.slice b2 t.dt.length d2'):=fun w' hC=>by
             rw[(hC HR6.out).rm.1.hb.arr (show J*2+1<2*((cfR N).N+1) by show J*2+1<2*(N+1);omega),Nat.mul_comm J 2,(hC HR6.out).hj2]
            refine TX.bB (T:=ny KP.out) [TX.af.is (.bool true),TX.af.is (.slice (some ⟨q2,0,none⟩) (N+1) (N+1)),TX.af.is (.int .i64 (J:Int)),TX.af.is (.pointer (some ⟨q2,J,none⟩)),TX.af.is (.bool true),TX.af.is (.bool false),TX.af.is (.bool false),TX.af.is (.bool true),TX.af.is (.bool true),TX.af.is (.pointer (some ⟨o,0,none⟩)),TX.af.is (.slice a1 t.pt.length c1),TX.af.is (.slice (some ⟨hq,0,none⟩) (N+1) (N+1)),TX.af.is (.int .i64 (J:Int)),TX.af.is (.pointer (some ⟨hq,J*2,none⟩)),TX.af.is (.pointer (some ⟨hq,J*2,none⟩)),TX.af.is (.slice b1 t.pt.length d1'),TX.af.is (.bool true),TX.af.is (.bool false),TX.af.is (.bool false),TX.af.is (.pointer (some ⟨o,1,none⟩)),TX.af.is (.slice a2 t.dt.length c2),TX.af.is (.slice (some ⟨hq,0,none⟩) (N+1) (N+1)),TX.af.is (.int .i64 (J:Int)),TX.af.is (.pointer (some ⟨hq,J*2,none⟩)),TX.af.is (.pointer (some ⟨hq,J*2+1,none⟩)),TX.af.is (.slice b2 t.dt.length d2'),TX.af.is (.bool true),TX.af.is (.bool false),TX.af.is (.bool false),TX.af.is (.bool false),TX.af.is (.bool false)] (by kernel_rfl) (by kernel_rfl) rfl (by kernel_rfl) (fun ops K2 hops hK=> ?_)
            refine TX.aa (TX.ae rfl) (fun w' hC hd=>TX.aj _ (.inl rfl) rfl) (by go_frame;rfl) (by simp only[List.nil_append,List.cons_append];rfl) ?_
            refine TX.aa (TX.ae rfl) (fun w' hC hd=>TX.aj _ (.inl rfl) rfl) (by go_frame;rfl) (by simp only[List.nil_append,List.cons_append];rfl) ?_
            refine TX.aa (TX.ae rfl) (fun w' hC hd=>TX.aj _ (.inl rfl) rfl) (by go_frame;rfl) (by simp only[List.nil_append,List.cons_append];rfl) ?_
            refine TX.aa (TX.ae rfl) (fun w' hC hd=>TX.bP 111 (.slice (some ⟨q2,0,none⟩) (N+1) (N+1)) 112 (.int .i64 (J:Int)) rfl rfl (fun ρ hρ hf e0 e1=>TX.ay (by go_simp))) (by go_frame;rfl) (by simp only[List.nil_append,List.cons_append];rfl) ?_
            refine TX.aa (TX.ae rfl) (fun w' hC hd=>TX.aD 113 (.pointer (some ⟨q2,J,none⟩)) rfl (fun ρ hρ hf e0=>TX.ay (by have hc0:=HC0 w' hC;go_simp))) (by go_frame;rfl) (by simp only[List.nil_append,List.cons_append];rfl) ?_
            refine TX.aa (TX.ae rfl) (fun w' hC hd=>TX.bP 110 (.bool true) 114 (.bool true) rfl rfl (fun ρ hρ hf e0 e1=>TX.ay (by have hb0:=True.intro;go_simp))) (by go_frame;rfl) (by simp only[List.nil_append,List.cons_append];rfl) ?_
            refine TX.aa (TX.ae rfl) (fun w' hC hd=>TX.aj _ (.inl rfl) rfl) (by go_frame;rfl) (by simp only[List.nil_append,List.cons_append];rfl) ?_
            refine TX.aa (TX.aA hops rfl rfl rfl rfl) (fun w' hC hd=>TX.aj _ (.inl rfl) rfl) (by go_frame;rfl) (by simp only[List.nil_append,List.cons_append];rfl) ?_
            refine TX.aa (TX.aA hops rfl rfl rfl rfl) (fun w' hC hd=>TX.aj _ (.inl rfl) rfl) (by go_frame;rfl) (by simp only[List.nil_append,List.cons_append];rfl) ?_
            refine TX.aa (TX.aA hops rfl rfl rfl rfl) (fun w' hC hd=>TX.aD 23 (.pointer (some ⟨o,0,none⟩)) rfl (fun ρ hρ hf e0=>TX.ay (by go_simp))) (by go_frame;rfl) (by simp only[List.nil_append,List.cons_append];rfl) ?_
            refine TX.aa (TX.aA hops rfl rfl rfl rfl) (fun w' hC hd=>TX.aD 119 (.pointer (some ⟨o,0,none⟩)) rfl (fun ρ hρ hf e0=>TX.ay (by have hc0:=HC1 w' hC;go_simp))) (by go_frame;rfl) (by simp only[List.nil_append,List.cons_append];rfl) ?_
            refine TX.aa (TX.aA hops rfl rfl rfl rfl) (fun w' hC hd=>TX.aj _ (.inl rfl) rfl) (by go_frame;rfl) (by simp only[List.nil_append,List.cons_append];rfl) ?_
            refine TX.aa (TX.aA hops rfl rfl rfl rfl) (fun w' hC hd=>TX.aj _ (.inl rfl) rfl) (by go_frame;rfl) (by simp only[List.nil_append,List.cons_append];rfl) ?_
            refine TX.aa (TX.aA hops rfl rfl rfl rfl) (fun w' hC hd=>TX.bP 121 (.slice (some ⟨hq,0,none⟩) (N+1) (N+1)) 122 (.int .i64 (J:Int)) rfl rfl (fun ρ hρ hf e0 e1=>TX.ay (by go_simp))) (by go_frame;rfl) (by simp only[List.nil_append,List.cons_append];rfl) ?_
            refine TX.aa (TX.aA hops rfl rfl rfl rfl) (fun w' hC hd=>TX.aD 123 (.pointer (some ⟨hq,J*2,none⟩)) rfl (fun ρ hρ hf e0=>TX.ay (by go_simp))) (by go_frame;rfl) (by simp only[List.nil_append,List.cons_append];rfl) ?_
            refine TX.aa (TX.aA hops rfl rfl rfl rfl) (fun w' hC hd=>TX.aD 124 (.pointer (some ⟨hq,J*2,none⟩)) rfl (fun ρ hρ hf e0=>TX.ay (by have hc0:=HC3 w' hC;go_simp))) (by go_frame;rfl) (by simp only[List.nil_append,List.cons_append];rfl) ?_
            refine TX.aa (TX.aA hops rfl rfl rfl rfl) (fun w' hC hd=>TX.bP 120 (.slice a1 t.pt.length c1) 125 (.slice b1 t.pt.length d1') rfl rfl (fun ρ hρ hf e0 e1=>TX.bJ (f:=24) (by go_simp) (NI KP.out HIi HR6.out hC))) (by go_frame;rfl) (by simp only[List.nil_append,List.cons_append];rfl) ?_
            refine TX.aa (TX.aA hops rfl rfl rfl rfl) (fun w' hC hd=>TX.aD 126 (.bool true) rfl (fun ρ hρ hf e0=>TX.ay (by go_simp))) (by go_frame;rfl) (by simp only[List.nil_append,List.cons_append];rfl) ?_
            refine TX.aa (TX.aA hops rfl rfl rfl rfl) (fun w' hC hd=>TX.aj _ (.inl rfl) rfl) (by go_frame;rfl) (by simp only[List.nil_append,List.cons_append];rfl) ?_
            refine TX.aa (TX.aA hops rfl rfl rfl rfl) (fun w' hC hd=>TX.aD 23 (.pointer (some ⟨o,0,none⟩)) rfl (fun ρ hρ hf e0=>TX.ay (by go_simp))) (by go_frame;rfl) (by simp only[List.nil_append,List.cons_append];rfl) ?_
            refine TX.aa (TX.aA hops rfl rfl rfl rfl) (fun w' hC hd=>TX.aD 129 (.pointer (some ⟨o,1,none⟩)) rfl (fun ρ hρ hf e0=>TX.ay (by have hc0:=HC2 w' hC;go_simp))) (by go_frame;rfl) (by simp only[List.nil_append,List.cons_append];rfl) ?_
            refine TX.aa (TX.aA hops rfl rfl rfl rfl) (fun w' hC hd=>TX.aj _ (.inl rfl) rfl) (by go_frame;rfl) (by simp only[List.nil_append,List.cons_append];rfl) ?_
            refine TX.aa (TX.aA hops rfl rfl rfl rfl) (fun w' hC hd=>TX.aj _ (.inl rfl) rfl) (by go_frame;rfl) (by simp only[List.nil_append,List.cons_append];rfl) ?_
            refine TX.aa (TX.aA hops rfl rfl rfl rfl) (fun w' hC hd=>TX.bP 131 (.slice (some ⟨hq,0,none⟩) (N+1) (N+1)) 132 (.int .i64 (J:Int)) rfl rfl (fun ρ hρ hf e0 e1=>TX.ay (by go_simp))) (by go_frame;rfl) (by simp only[List.nil_append,List.cons_append];rfl) ?_
            refine TX.aa (TX.aA hops rfl rfl rfl rfl) (fun w' hC hd=>TX.aD 133 (.pointer (some ⟨hq,J*2,none⟩)) rfl (fun ρ hρ hf e0=>TX.ay (by go_simp))) (by go_frame;rfl) (by simp only[List.nil_append,List.cons_append];rfl) ?_
            refine TX.aa (TX.aA hops rfl rfl rfl rfl) (fun w' hC hd=>TX.aD 134 (.pointer (some ⟨hq,J*2+1,none⟩)) rfl (fun ρ hρ hf e0=>TX.ay (by have hc0:=HC4 w' hC;go_simp))) (by go_frame;rfl) (by simp only[List.nil_append,List.cons_append];rfl) ?_
            refine TX.aa (TX.aA hops rfl rfl rfl rfl) (fun w' hC hd=>TX.bP 130 (.slice a2 t.dt.length c2) 135 (.slice b2 t.dt.length d2') rfl rfl (fun ρ hρ hf e0 e1=>TX.bJ (f:=25) (by go_simp) (NJ KP.out HIs HR6.out hC))) (by go_frame;rfl) (by simp only[List.nil_append,List.cons_append];rfl) ?_
            refine TX.aa (TX.aA hops rfl rfl rfl rfl) (fun w' hC hd=>TX.aD 136 (.bool true) rfl (fun ρ hρ hf e0=>TX.ay (by go_simp))) (by go_frame;rfl) (by simp only[List.nil_append,List.cons_append];rfl) ?_
            refine TX.aa (TX.aA hops rfl rfl rfl rfl) (fun w' hC hd=>TX.dZ _ _ _ false rfl rfl rfl) (by go_frame;rfl) (by simp only[List.nil_append,List.cons_append];rfl) ?_
            refine TX.aa (TX.aA hops rfl rfl rfl rfl) (fun w' hC hd=>TX.dZ _ _ _ true rfl rfl rfl) (by go_frame;rfl) (by simp only[List.nil_append,List.cons_append];rfl) ?_
            refine TX.aa (TX.ae rfl) (fun w' hC hd=>TX.dZ _ _ _ false rfl rfl rfl) (by go_frame;rfl) (by simp only[List.nil_append,List.cons_append];rfl) ?_
            refine TX.fJ (fun w2 hC hk=>hK _ _ ?_)
            have HS9:=hid (hC HR6.out)
            clear hC hk hK
            have HS10:=hid (HS9.out.rm)
            clear HS9 HC0 HC1 HC2 HC3 HC4 HIi HIs
            go_wp2_with fail
            refine(HS10.out.1.st.does HBk.out).mono ?_
            rintro e w12 ⟨rfl,hS12,hT12⟩
            have HS12:=hid (HS10.out.Hr hS12 hT12)
            clear hS12 hT12
            go_wp2_with fail
            go_roundw
            case rel=>exact⟨j+1,v+oc,by omega,HM2.out,by go_num,by go_num,HS12.out⟩
            case measure=>simp[intOf];omega
          ·obtain rfl:j=L.length:=by omega
           have hlen2:(v:Int)+(E.clean.length:Int)=(N:Int):=by have:=HTo.out;omega
           have lw:IntKind.i64.wrap ((v:Int)+(E.clean.length:Int))=(N:Int):=by rw[hlen2];exact IntWalk.i64_in _ (by omega)
           have l16:IntKind.i64.wrap ((N:Int)*16)=(N:Int)*16:=IntWalk.i64_in _ (by omega)
           have hst:(k:Int)≤(N:Int)*16:=by omega
           have HLe:=hid (NH poolFns (c:=cfR N) (D:=E))
           have hfc1:=jw (N:Int) 16 1 1
           generalize E.clean.length=cl at*
           clear hM hv hlen hlen2
           go_wp2_with fail
           refine(begun18_any _).mono ?_
           rintro e w12 ⟨rfl,hb⟩
           have HS1:=hid (HM9.out.1.st.later hb)
           clear hb
           go_wp2_with fail
           refine HS1.out.conf.mono ?_
           rintro e w13 ⟨rfl,hb⟩
           have HS2:=hid (HS1.out.later hb)
           clear hb
           go_wp2_with fail
           refine HS2.out.conf.mono ?_
           rintro e w14 ⟨rfl,hb⟩
           have HS3:=hid (HS2.out.later hb)
           clear hb
           go_wp2_with fail
           refine(HS3.out.does HLe.out).mono ?_
           rintro e w15 ⟨rfl,hS4,_⟩
           have HS4:=hid hS4
           clear hS4
           go_wp2_with fail
           refine HS4.out.conf.mono ?_
           rintro e w16 ⟨rfl,hb⟩
           have HB8:=hid (below_step HS4.out.below hb)
           clear hb
           go_wp2_with fail
           go_ret
           exact⟨rfl,HB8.out⟩
set_option maxHeartbeats 1000000 in
theorem uq(n:Value)(a:Option Addr)(cap l1:Nat)(b:Option Addr)(capb l2:Nat)(d:Option Addr)(capd l3:Nat)(w:World)(h:¬(l1≤30∧l2≤200∧l3≤50)):
  Calls Tryz.prog 4 #[n,.slice a l1 cap,.slice b l2 capb,.slice d l3 capd] w fun e w'=>e=.returned (.bool true)∧Below w.heap.size w w':=by
 by_cases h1:30<(l1:Int)
 ·clear h
  go_enter Tryz.func4,Tryz.ntmps4
  go_wp2_with fail
  refine(begun18_any _).mono ?_
  rintro e w1 ⟨rfl,hb⟩
  go_wp2_with fail
  go_ret
  exact⟨rfl,hb⟩
 ·skip
  by_cases h2:200<(l2:Int)
  ·clear h
   go_enter Tryz.func4,Tryz.ntmps4
   go_wp2_with fail
   refine(begun18_any _).mono ?_
   rintro e w1 ⟨rfl,hb⟩
   go_wp2_with fail
   go_ret
   exact⟨rfl,hb⟩
  ·skip
   have h3:50<(l3:Int):=by omega
   clear h
   go_enter Tryz.func4,Tryz.ntmps4
   go_wp2_with fail
   refine(begun18_any _).mono ?_
   rintro e w1 ⟨rfl,hb⟩
   go_wp2_with fail
   go_ret
   exact⟨rfl,hb⟩
end Go.Proofs.YtjmifnljckmimaaGreat.Pk
