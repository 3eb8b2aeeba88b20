/-
  What the functions of package ring return: Add, Cut, Take, Len, Has, List; the bundle.
-/
import Derived.Test.YtjmifnljckmimaaGreatRingFnEtc
import Derived.Test.YtjmifnljckmimaaGreatTagIEtc
import Derived.Deep.AppendLies
import Derived.Maps.AppendAt
namespace Go.Proofs.YtjmifnljckmimaaGreat.Pk
open Lib (hid)
open Go.RowKit
set_option linter.unusedVariables false
set_option linter.unusedSimpArgs false
section
variable {c:Cf} {zs:List Int} {b:Nat}
theorem wD(hm:c.May)(hz:zs.length=c.size)(hb:b<c.N)(hq:Nm c (nth zs 8)):
  ((gM c ((b:Int)+1) 0 (gM c (nth zs 8) ((b:Int)+1) zs)).set (adr c b 0) (nth zs (adr c b 0)+64)).set 9 (nth zs 9+1)=bg c b zs:=by
 have hs:=hm.size
 have hl:=iC hm hb (u:=0) (by omega)
 have hy:Nm c ((b:Int)+1):=.inr ⟨b,hb,rfl⟩
 have ea:((b:Int)+1-1).toNat=b:=by omega
 have eb:¬((b:Int)+1=0):=by omega
 refine nI (by simp[dH]) (fun i hi=> ?_)
 rw[aX (by simp[dH];omega),aX (by simp[dH];omega)]
 unfold gM
 rw[oL hm (by rw[fC,lY,fC];exact hz) (.inl rfl),oK hm (by rw[lY,fC];exact hz) hy,oL hm (by rw[fC];exact hz) hy,oK hm hz hq]
 unfold eU
 simp only[ea,eb,if_true,if_false]
 have hR:∀r x u:Nat,r<24→(r=adr c x u)=False:=fun r x u h=>eq_false (uE h)
 have hR':∀r x u:Nat,r<24→(adr c x u=r)=False:=fun r x u h=>eq_false (dC h)
 by_cases e9:i=9
 ·subst e9;simp
 by_cases e7:i=7
 ·subst e7;simp[hR]
 by_cases e8:i=8
 ·subst e8;simp[hR]
 by_cases a0:i=adr c b 0
 ·subst a0;simp[hR']
 by_cases a6:i=adr c b 6
 ·subst a6;simp[hR',jO hm]
 by_cases a7:i=adr c b 7
 ·subst a7;simp[hR',jO hm]
 by_cases q:nth zs 8=0
 ·simp[e9,e7,e8,a0,a6,a7,q]
 ·simp[e9,e7,e8,a0,a6,a7,q]
theorem wE(hm:c.May)(hz:zs.length=c.size)(hb:b<c.N)(hA:Nm c (nth zs (adr c b 6)))(hZ:Nm c (nth zs (adr c b 7))):
  ((((gM c (nth zs (adr c b 6)) (nth zs (adr c b 7)) zs).set (adr c b 6) 0).set (adr c b 7) 0).set (adr c b 0) (nth zs (adr c b 0)-64)).set 9 (nth zs 9-1)=aY c b zs:=by
 have hs:=hm.size
 have hl:=iC hm hb (u:=0) (by omega)
 have hl6:=iC hm hb (u:=6) (by omega)
 have hl7:=iC hm hb (u:=7) (by omega)
 refine nI (by simp[dH]) (fun i hi=> ?_)
 rw[aX (by simp[dH];omega),aX (by simp[dH];omega),aX (by simp[dH];omega),aX (by simp[dH];omega)]
 unfold gM
 rw[oL hm (by rw[fC];exact hz) hZ,oK hm hz hA]
 unfold eX
 have hR:∀r x u:Nat,r<24→(r=adr c x u)=False:=fun r x u h=>eq_false (uE h)
 have hR':∀r x u:Nat,r<24→(adr c x u=r)=False:=fun r x u h=>eq_false (dC h)
 by_cases e9:i=9
 ·subst e9;simp
 by_cases e7:i=7
 ·subst e7;simp[hR]
 by_cases e8:i=8
 ·subst e8;simp[hR]
 by_cases a0:i=adr c b 0
 ·subst a0;simp[hR']
 by_cases a6:i=adr c b 6
 ·subst a6;simp[hR',jO hm]
 by_cases a7:i=adr c b 7
 ·subst a7;simp[hR',jO hm]
 generalize nth zs (adr c b 6)=A at*
 generalize nth zs (adr c b 7)=Z at*
 have hd:∀x y,i=adr c x 6→i=adr c y 7→False:=fun x y h1 h2=>by
  have:=(jO hm (by decide) (by decide)).1 (h1.symm.trans h2);omega
 by_cases q:A=0<;>by_cases r:Z=0
 ·simp[e9,e7,e8,a0,a6,a7,q,r]
 ·simp[e9,e7,e8,a0,a6,a7,q,r]
 ·simp[e9,e7,e8,a0,a6,a7,q,r]
 ·simp[e9,e7,e8,a0,a6,a7,q,r]
  by_cases u:i=adr c (A.toNat-1) 7
  ·by_cases v:i=adr c (Z.toNat-1) 6
   ·exact(hd _ _ v u).elim
   ·rw[if_neg v,if_pos u,if_pos u]
  ·simp[u]
end
set_option maxHeartbeats 1000000 in
theorem Jc(p:Pl)(c:Cf)(s:St)(b t:Int)(w:World)(hG:G w p c s)(ht:mH c s.zs b=t)(h:jW t=false∨jW t=true∧tN t=true):
  Calls Tryz.prog 158 #[.pointer (some ⟨p.a,0,none⟩),.int .i64 b] w (GP w p c ⟨s.zs,s.m+dF (aB c b 0)⟩ (.bool false)):=by
 have HG:=hid hG
 have hbd:=AU hG b
 rw[ht] at hbd
 have HT:=hid ht
 clear hG ht
 rcases h with h|⟨h,hk⟩
 ·have H1:=hid h
  clear h
  go_enter Tryz.func158,Tryz.ntmps158
  have HT0:Hid (Touch (inG p) w w):=hid (Touch.refl _ _)
  go_wp2_with fail
  refine(uR p c s b t _ HG.out HT.out).mono ?_
  rintro e wm1 ⟨rfl,hG,hT⟩
  have HG1:=hid hG
  have HT1:Hid (Touch (inG p) _ wm1):=hid (HT0.out.trans hT)
  clear hG hT
  go_wp2_with fail
  refine(jL t _ hbd.1 hbd.2).mono ?_
  rw[H1.out]
  rintro e wm2 ⟨rfl,hb⟩
  have HG2:=hid (HG1.out.later hb)
  have HT2:Hid (Touch (inG p) _ wm2):=hid (HT1.out.trans (Touch.of_below hb))
  clear hb
  go_wp2_with fail
  go_ret
  exact⟨rfl,HG2.out,HT2.out⟩
 ·have H1:=hid h
  have H2:=hid hk
  clear h hk
  go_enter Tryz.func158,Tryz.ntmps158
  have HT0:Hid (Touch (inG p) w w):=hid (Touch.refl _ _)
  go_wp2_with fail
  refine(uR p c s b t _ HG.out HT.out).mono ?_
  rintro e wm1 ⟨rfl,hG,hT⟩
  have HG1:=hid hG
  have HT1:Hid (Touch (inG p) _ wm1):=hid (HT0.out.trans hT)
  clear hG hT
  go_wp2_with fail
  refine(jL t _ hbd.1 hbd.2).mono ?_
  rw[H1.out]
  rintro e wm2 ⟨rfl,hb⟩
  have HG2:=hid (HG1.out.later hb)
  have HT2:Hid (Touch (inG p) _ wm2):=hid (HT1.out.trans (Touch.of_below hb))
  clear hb
  go_wp2_with fail
  refine(kL t _ hbd.1 hbd.2).mono ?_
  rw[H2.out]
  rintro e wm3 ⟨rfl,hb⟩
  have HG3:=hid (HG2.out.later hb)
  have HT3:Hid (Touch (inG p) _ wm3):=hid (HT2.out.trans (Touch.of_below hb))
  clear hb
  go_wp2_with fail
  go_ret
  exact⟨rfl,HG3.out,HT3.out⟩
set_option maxHeartbeats 1000000 in
theorem zg(p:Pl)(c:Cf)(s:St)(b t:Int)(w:World)(hG:G w p c s)(ht:mH c s.zs b=t)(h:jW t=false∨jW t=true∧tN t=false):
  Calls Tryz.prog 135 #[.pointer (some ⟨p.a,0,none⟩),.int .i64 b] w (GP w p c ⟨s.zs,s.m+dF (aB c b 0)⟩ (.bool false)):=by
 have HG:=hid hG
 have hbd:=AU hG b
 rw[ht] at hbd
 have HT:=hid ht
 clear hG ht
 rcases h with h|⟨h,hk⟩
 ·have H1:=hid h
  clear h
  go_enter Tryz.func135,Tryz.ntmps135
  have HT0:Hid (Touch (inG p) w w):=hid (Touch.refl _ _)
  go_wp2_with fail
  refine(uR p c s b t _ HG.out HT.out).mono ?_
  rintro e wm1 ⟨rfl,hG,hT⟩
  have HG1:=hid hG
  have HT1:Hid (Touch (inG p) _ wm1):=hid (HT0.out.trans hT)
  clear hG hT
  go_wp2_with fail
  refine(jL t _ hbd.1 hbd.2).mono ?_
  rw[H1.out]
  rintro e wm2 ⟨rfl,hb⟩
  have HG2:=hid (HG1.out.later hb)
  have HT2:Hid (Touch (inG p) _ wm2):=hid (HT1.out.trans (Touch.of_below hb))
  clear hb
  go_wp2_with fail
  go_ret
  exact⟨rfl,HG2.out,HT2.out⟩
 ·have H1:=hid h
  have H2:=hid hk
  clear h hk
  go_enter Tryz.func135,Tryz.ntmps135
  have HT0:Hid (Touch (inG p) w w):=hid (Touch.refl _ _)
  go_wp2_with fail
  refine(uR p c s b t _ HG.out HT.out).mono ?_
  rintro e wm1 ⟨rfl,hG,hT⟩
  have HG1:=hid hG
  have HT1:Hid (Touch (inG p) _ wm1):=hid (HT0.out.trans hT)
  clear hG hT
  go_wp2_with fail
  refine(jL t _ hbd.1 hbd.2).mono ?_
  rw[H1.out]
  rintro e wm2 ⟨rfl,hb⟩
  have HG2:=hid (HG1.out.later hb)
  have HT2:Hid (Touch (inG p) _ wm2):=hid (HT1.out.trans (Touch.of_below hb))
  clear hb
  go_wp2_with fail
  refine(kL t _ hbd.1 hbd.2).mono ?_
  rw[H2.out]
  rintro e wm3 ⟨rfl,hb⟩
  have HG3:=hid (HG2.out.later hb)
  have HT3:Hid (Touch (inG p) _ wm3):=hid (HT2.out.trans (Touch.of_below hb))
  clear hb
  go_wp2_with fail
  go_ret
  exact⟨rfl,HG3.out,HT3.out⟩
set_option maxHeartbeats 1000000 in
theorem Fy(p:Pl)(c:Cf)(s:St)(b:Nat)(l:List Nat)(w:World)(hG:G w p c s)(hR:RingAt c s.zs l)(hb:b<c.N)(hn:b∉l)(hk:bF (nth s.zs (adr c b 0))):
  Calls Tryz.prog 158 #[.pointer (some ⟨p.a,0,none⟩),.int .i64 (b:Int)] w (GP w p c ⟨bg c b s.zs,s.m+9⟩ (.bool true)):=by
 have HG:=hid hG
 have hm:=hG.may
 have hz:=hG.len
 have hN:=hm.n
 have hW:=hm.w
 have hlk:=dX hR.nd hR.lt
 obtain⟨n,hnl⟩:∃n:Nat,n=l.length:=⟨_,rfl⟩
 have hnN:n≤c.N:=by rw[hnl];exact hlk
 have r9:nth s.zs 9=(n:Int):=by rw[hnl];exact hR.r9
 have hg0:=hR.QQ hb hn
 have hbd:=(hR.tok b hb).bd
 have HE:=wD hm hz hb (by rw[hR.r8];exact Nm.RL hR.lt)
 rw[r9] at HE
 have Hq:Hid (Nm c (nth s.zs 8)):=hid (by rw[hR.r8];exact Nm.RL hR.lt)
 have Hy:Hid (Nm c ((b:Int)+1)):=hid (.inr ⟨b,hb,rfl⟩)
 obtain⟨t,ht⟩:∃t,t=nth s.zs (adr c b 0):=⟨_,rfl⟩
 rw[←ht] at HE hg0 hbd hk
 obtain⟨q,hq⟩:∃q,q=nth s.zs 8:=⟨_,rfl⟩
 rw[←hq] at HE Hq
 have H1:=hid (kZ hk)
 have H2:Hid (tN t=false):=hid (decide_eq_false (by omega))
 have eor:=QU (by omega) (by omega) hg0
 have ew1:IntKind.i64.wrap ((b:Int)+1)=(b:Int)+1:=IntWalk.i64_in _ (by omega)
 have ew3:IntKind.i64.wrap ((n:Int)+1)=(n:Int)+1:=IntWalk.i64_in _ (by omega)
 have R9:Hid (nth ((gM c ((b:Int)+1) 0 (gM c q ((b:Int)+1) s.zs)).set (adr c b 0) (t+64)) 9=(n:Int)):=hid (by
  rw[ai (dC (by omega)),rW hm (by rw[dH];exact hz) Hy.out (.inl rfl) (by omega) (by omega) (by omega),rW hm hz Hq.out Hy.out (by omega) (by omega) (by omega)];exact r9)
 have HT:=hid (show nth s.zs (adr c b 0)=t from ht.symm)
 have HQ:=hid (show nth s.zs 8=q from hq.symm)
 have HEh:=hid HE
 have W0:Hid (0<c.W):=hid (by omega)
 clear hG hR hz r9 hm hn hk hg0 HE hnl hlk ht hq
 go_enter Tryz.func158,Tryz.ntmps158
 have HT0:Hid (Touch (inG p) w w):=hid (Touch.refl _ _)
 go_wp2_with fail
 refine(fq p c s b 0 _ _ t _ HG.out hb W0.out rfl rfl HT.out).mono ?_
 rintro e wm1 ⟨rfl,hG,hT⟩
 have HG1:=hid hG
 have HT1:Hid (Touch (inG p) _ wm1):=hid (HT0.out.trans hT)
 clear hG hT
 go_wp2_with fail
 refine(jL t _ (by omega) (by omega)).mono ?_
 rw[H1.out]
 rintro e wm2 ⟨rfl,hb⟩
 have HG2:=hid (HG1.out.later hb)
 have HT2:Hid (Touch (inG p) _ wm2):=hid (HT1.out.trans (Touch.of_below hb))
 clear hb
 go_wp2_with fail
 refine(kL t _ (by omega) (by omega)).mono ?_
 rw[H2.out]
 rintro e wm3 ⟨rfl,hb⟩
 have HG3:=hid (HG2.out.later hb)
 have HT3:Hid (Touch (inG p) _ wm3):=hid (HT2.out.trans (Touch.of_below hb))
 clear hb
 go_wp2_with fail
 refine(gQ p c _ 8 _ q _ HG3.out (by omega) rfl HQ.out).mono ?_
 rintro e wm4 ⟨rfl,hG,hT⟩
 have HG4:=hid hG
 have HT4:Hid (Touch (inG p) _ wm4):=hid (HT3.out.trans hT)
 clear hG hT
 go_wp2_with fail
 refine(Au p c _ q ((b:Int)+1) _ HG4.out Hq.out Hy.out).mono ?_
 rintro e wm5 ⟨rfl,hG,hT⟩
 have HG5:=hid hG
 have HT5:Hid (Touch (inG p) _ wm5):=hid (HT4.out.trans hT)
 clear hG hT
 go_wp2_with fail
 refine(Au p c _ ((b:Int)+1) 0 _ HG5.out Hy.out (.inl rfl)).mono ?_
 rintro e wm6 ⟨rfl,hG,hT⟩
 have HG6:=hid hG
 have HT6:Hid (Touch (inG p) _ wm6):=hid (HT5.out.trans hT)
 clear hG hT
 go_wp2_with fail
 refine(GX _).mono ?_
 rintro e wm7 ⟨rfl,hb⟩
 have HG7:=hid (HG6.out.later hb)
 have HT7:Hid (Touch (inG p) _ wm7):=hid (HT6.out.trans (Touch.of_below hb))
 clear hb
 go_wp2_with fail
 refine(aK p c _ b 0 _ _ (t+64) _ HG7.out hb W0.out rfl rfl (by omega) (by omega)).mono ?_
 rintro e wm8 ⟨rfl,hG,hT⟩
 have HG8:=hid hG
 have HT8:Hid (Touch (inG p) _ wm8):=hid (HT7.out.trans hT)
 clear hG hT
 go_wp2_with fail
 refine(gQ p c _ 9 _ (n:Int) _ HG8.out (by omega) rfl R9.out).mono ?_
 rintro e wm9 ⟨rfl,hG,hT⟩
 have HG9:=hid hG
 have HT9:Hid (Touch (inG p) _ wm9):=hid (HT8.out.trans hT)
 clear hG hT
 go_wp2_with fail
 refine(aO p c _ 9 _ ((n:Int)+1) _ HG9.out (by omega) rfl (by omega) (by omega)).mono ?_
 rintro e wm10 ⟨rfl,hG,hT⟩
 have HG10:=hid hG
 have HT10:Hid (Touch (inG p) _ wm10):=hid (HT9.out.trans hT)
 clear hG hT
 go_wp2_with fail
 go_ret
 exact⟨rfl,HG10.out.fO HEh.out rfl,HT10.out⟩
set_option maxHeartbeats 1000000 in
theorem ww(p:Pl)(c:Cf)(s:St)(b:Nat)(l:List Nat)(w:World)(hG:G w p c s)(hR:RingAt c s.zs l)(hbl:b∈l):
  Calls Tryz.prog 135 #[.pointer (some ⟨p.a,0,none⟩),.int .i64 (b:Int)] w (GP w p c ⟨aY c b s.zs,s.m+10⟩ (.bool true)):=by
 have HG:=hid hG
 have hm:=hG.may
 have hz:=hG.len
 have hN:=hm.n
 have hW:=hm.w
 have hlk:=dX hR.nd hR.lt
 have hb:=hR.lt b hbl
 have hl1:0<l.length:=List.length_pos_of_mem hbl
 obtain⟨n,hnl⟩:∃n:Nat,n=l.length:=⟨_,rfl⟩
 have hnN:n≤c.N:=by rw[hnl];exact hlk
 have hn1:0<n:=by rw[hnl];exact hl1
 have r9:nth s.zs 9=(n:Int):=by rw[hnl];exact hR.r9
 have hg1:=(hR.mrk b hb).2 hbl
 have hbd:=(hR.tok b hb).bd
 have hk:=hR.hd b hbl
 obtain⟨l1,l2,hl⟩:=DJ hbl
 have hlt:=hR.lt
 subst hl
 obtain⟨h6,h7⟩:=hR.split
 have Ha:Nm c (nth s.zs (adr c b 6)):=by rw[h6];exact Nm.RL (fun x hx=>hlt x (by simp[hx]))
 have Hz:Nm c (nth s.zs (adr c b 7)):=by rw[h7];exact Nm.fst (fun x hx=>hlt x (by simp[hx]))
 have HE:=wE hm hz hb Ha Hz
 rw[r9] at HE
 clear hR hlt hnl hl1 hlk hbl h6 h7
 obtain⟨t,ht⟩:∃t,t=nth s.zs (adr c b 0):=⟨_,rfl⟩
 rw[←ht] at HE hg1 hbd hk
 obtain⟨u,hu⟩:∃u,u=nth s.zs (adr c b 6):=⟨_,rfl⟩
 obtain⟨v,hv⟩:∃v,v=nth s.zs (adr c b 7):=⟨_,rfl⟩
 rw[←hu] at HE Ha
 rw[←hv] at HE Hz
 have ub:=Ha.bd hm
 have vb:=Hz.bd hm
 have H1:=hid (kZ hk)
 have H2:Hid (tN t=true):=hid (decide_eq_true hg1)
 have htb:64≤t:=by unfold uG at hg1;omega
 have enot:=PI (by omega) (by omega) hg1
 have ew1:IntKind.i64.wrap u=u:=IntWalk.i64_in _ (by omega)
 have ew2:IntKind.i64.wrap v=v:=IntWalk.i64_in _ (by omega)
 have ew3:IntKind.i64.wrap ((n:Int)-1)=(n:Int)-1:=IntWalk.i64_in _ (by omega)
 have R9:Hid (nth ((((gM c u v s.zs).set (adr c b 6) 0).set (adr c b 7) 0).set (adr c b 0) (t-64)) 9=(n:Int)):=hid (by
  rw[ai (dC (by omega)),ai (dC (by omega)),ai (dC (by omega)),rW hm hz Ha Hz (by omega) (by omega) (by omega)];exact r9)
 have HT:=hid (show nth s.zs (adr c b 0)=t from ht.symm)
 have HU:=hid (show nth s.zs (adr c b 6)=u from hu.symm)
 have HV:=hid (show nth s.zs (adr c b 7)=v from hv.symm)
 have HEh:=hid HE
 have HA:=hid Ha
 have HZ:=hid Hz
 have W0:Hid (0<c.W):=hid (by omega)
 have W6:Hid (6<c.W):=hid (by omega)
 have W7:Hid (7<c.W):=hid (by omega)
 clear hG hz r9 hm hk hg1 HE ht hu hv Ha Hz
 go_enter Tryz.func135,Tryz.ntmps135
 have HT0:Hid (Touch (inG p) w w):=hid (Touch.refl _ _)
 go_wp2_with fail
 refine(fq p c s b 0 _ _ t _ HG.out hb W0.out rfl rfl HT.out).mono ?_
 rintro e wm1 ⟨rfl,hG,hT⟩
 have HG1:=hid hG
 have HT1:Hid (Touch (inG p) _ wm1):=hid (HT0.out.trans hT)
 clear hG hT
 go_wp2_with fail
 refine(jL t _ (by omega) (by omega)).mono ?_
 rw[H1.out]
 rintro e wm2 ⟨rfl,hb⟩
 have HG2:=hid (HG1.out.later hb)
 have HT2:Hid (Touch (inG p) _ wm2):=hid (HT1.out.trans (Touch.of_below hb))
 clear hb
 go_wp2_with fail
 refine(kL t _ (by omega) (by omega)).mono ?_
 rw[H2.out]
 rintro e wm3 ⟨rfl,hb⟩
 have HG3:=hid (HG2.out.later hb)
 have HT3:Hid (Touch (inG p) _ wm3):=hid (HT2.out.trans (Touch.of_below hb))
 clear hb
 go_wp2_with fail
 refine(fq p c _ b 6 _ _ u _ HG3.out hb W6.out rfl rfl HU.out).mono ?_
 rintro e wm4 ⟨rfl,hG,hT⟩
 have HG4:=hid hG
 have HT4:Hid (Touch (inG p) _ wm4):=hid (HT3.out.trans hT)
 clear hG hT
 go_wp2_with fail
 refine(fq p c _ b 7 _ _ v _ HG4.out hb W7.out rfl rfl HV.out).mono ?_
 rintro e wm5 ⟨rfl,hG,hT⟩
 have HG5:=hid hG
 have HT5:Hid (Touch (inG p) _ wm5):=hid (HT4.out.trans hT)
 clear hG hT
 go_wp2_with fail
 refine(Au p c _ u v _ HG5.out HA.out HZ.out).mono ?_
 rintro e wm6 ⟨rfl,hG,hT⟩
 have HG6:=hid hG
 have HT6:Hid (Touch (inG p) _ wm6):=hid (HT5.out.trans hT)
 clear hG hT
 go_wp2_with fail
 refine(aK p c _ b 6 _ _ 0 _ HG6.out hb W6.out rfl rfl (by omega) (by omega)).mono ?_
 rintro e wm7 ⟨rfl,hG,hT⟩
 have HG7:=hid hG
 have HT7:Hid (Touch (inG p) _ wm7):=hid (HT6.out.trans hT)
 clear hG hT
 go_wp2_with fail
 refine(aK p c _ b 7 _ _ 0 _ HG7.out hb W7.out rfl rfl (by omega) (by omega)).mono ?_
 rintro e wm8 ⟨rfl,hG,hT⟩
 have HG8:=hid hG
 have HT8:Hid (Touch (inG p) _ wm8):=hid (HT7.out.trans hT)
 clear hG hT
 go_wp2_with fail
 refine(GX _).mono ?_
 rintro e wm9 ⟨rfl,hb⟩
 have HG9:=hid (HG8.out.later hb)
 have HT9:Hid (Touch (inG p) _ wm9):=hid (HT8.out.trans (Touch.of_below hb))
 clear hb
 go_wp2_with fail
 refine(aK p c _ b 0 _ _ (t-64) _ HG9.out hb W0.out rfl rfl (by omega) (by omega)).mono ?_
 rintro e wm10 ⟨rfl,hG,hT⟩
 have HG10:=hid hG
 have HT10:Hid (Touch (inG p) _ wm10):=hid (HT9.out.trans hT)
 clear hG hT
 go_wp2_with fail
 refine(gQ p c _ 9 _ (n:Int) _ HG10.out (by omega) rfl R9.out).mono ?_
 rintro e wm11 ⟨rfl,hG,hT⟩
 have HG11:=hid hG
 have HT11:Hid (Touch (inG p) _ wm11):=hid (HT10.out.trans hT)
 clear hG hT
 go_wp2_with fail
 refine(aO p c _ 9 _ ((n:Int)-1) _ HG11.out (by omega) rfl (by omega) (by omega)).mono ?_
 rintro e wm12 ⟨rfl,hG,hT⟩
 have HG12:=hid hG
 have HT12:Hid (Touch (inG p) _ wm12):=hid (HT11.out.trans hT)
 clear hG hT
 go_wp2_with fail
 go_ret
 exact⟨rfl,HG12.out.fO HEh.out rfl,HT12.out⟩
theorem Dr(p:Pl)(c:Cf)(s:St)(b:Nat)(l:List Nat)(w:World)(hG:G w p c s)(hR:RingAt c s.zs (b::l)):
  Calls Tryz.prog 183 #[.pointer (some ⟨p.a,0,none⟩)] w (GP w p c ⟨aY c b s.zs,s.m+11⟩ (.tuple #[.int .i64 (b:Int),.bool true])):=by
 have HG:=hid hG
 have hN:=hG.may.n
 have hb:=hR.lt b (by simp)
 have HR:=hid hR
 have R7:Hid (nth s.zs 7=(b:Int)+1):=hid hR.r7
 have ew:IntKind.i64.wrap ((b:Int)+1-1)=(b:Int):=by rw[Int.add_sub_cancel];exact IntWalk.i64_in _ (by omega)
 clear hG hR
 go_enter Tryz.func183,Tryz.ntmps183
 have HT0:Hid (Touch (inG p) w w):=hid (Touch.refl _ _)
 go_wp2_with fail
 refine(gQ p c s 7 _ _ _ HG.out (by omega) rfl R7.out).mono ?_
 rintro e wm1 ⟨rfl,hG,hT⟩
 have HG1:=hid hG
 have HT1:Hid (Touch (inG p) _ wm1):=hid (HT0.out.trans hT)
 clear hG hT
 go_wp2_with fail
 refine(ww p c s.got b (b::l) _ HG1.out HR.out (by simp)).mono ?_
 rintro e wm2 ⟨rfl,hG,hT⟩
 have HG2:=hid hG
 have HT2:Hid (Touch (inG p) _ wm2):=hid (HT1.out.trans hT)
 clear hG hT
 go_wp2_with fail
 go_ret2
 exact⟨rfl,HG2.out.fO rfl (by show s.m+1+10=s.m+11;omega),HT2.out⟩
theorem Fz(p:Pl)(c:Cf)(s:St)(w:World)(hG:G w p c s)(hR:RingAt c s.zs []):
  Calls Tryz.prog 183 #[.pointer (some ⟨p.a,0,none⟩)] w (GP w p c ⟨s.zs,s.m+1⟩ (.tuple #[.int .i64 0,.bool false])):=by
 have HG:=hid hG
 have R7:Hid (nth s.zs 7=0):=hid hR.r7
 have E:Hid (mH c s.zs (-1)=0):=hid (wI (by omega))
 clear hG hR
 go_enter Tryz.func183,Tryz.ntmps183
 have HT0:Hid (Touch (inG p) w w):=hid (Touch.refl _ _)
 go_wp2_with fail
 refine(gQ p c s 7 _ _ _ HG.out (by omega) rfl R7.out).mono ?_
 rintro e wm1 ⟨rfl,hG,hT⟩
 have HG1:=hid hG
 have HT1:Hid (Touch (inG p) _ wm1):=hid (HT0.out.trans hT)
 clear hG hT
 go_wp2_with fail
 refine(zg p c s.got (-1) 0 _ HG1.out E.out (.inl rfl)).mono ?_
 rintro e wm2 ⟨rfl,hG,hT⟩
 have HG2:=hid hG
 have HT2:Hid (Touch (inG p) _ wm2):=hid (HT1.out.trans hT)
 clear hG hT
 go_wp2_with fail
 go_ret2
 exact⟨rfl,HG2.out.fO rfl rfl,HT2.out⟩
end Go.Proofs.YtjmifnljckmimaaGreat.Pk
