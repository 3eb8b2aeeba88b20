/-
  Texts laid together: ChA, RingLaw, RingLike.
-/
import Derived.Test.YtbhhfnlkpieebaaGreatChainsEtc
import Derived.Test.YtbhhfnlkpieebaaGreatGroFnEtc
import Derived.Test.YtbhhfnlkpieebaaGreatBaseEtc
import Derived.BigQuiet
namespace Go.Proofs.YtbhhfnlkpieebaaGreat.Pk
open Lib (hid)
open Go.RowKit
set_option linter.unusedVariables false
set_option linter.unusedSimpArgs false
def jI(l:List Nat):Nat:=if l=[] then 6 else 5
def takeD(l:List Nat):Nat:=if l=[] then 7 else 6
def Qm(k:Int):Nat:=if k=0∨k=1 then 1 else 0
section
variable {c:Cf} {zs:List Int} {k b:Nat}
theorem BA(hm:c.May)(hz:zs.length=c.size)(hk:k<2)(hb:b<c.N)(h0:nth zs (3*k)=0):
  ((((zs.set (eF c b) 0).set (3*k) ((b:Int)+1)).set (3*k+1) ((b:Int)+1)).set (3*k+2) (nth zs (3*k+2)+1))=nD c k b zs:=by
 have hs:=hm.size
 have hl:=jE hm hb
 refine mY (by simp) (fun i hi=> ?_)
 unfold mD
 rw[aI (by simp;omega),aI (by simp;omega),aI (by simp;omega),aI (by omega),h0,if_pos rfl]
 by_cases e2:i=3*k+2
 ·rw[if_pos e2,if_pos e2]
 rw[if_neg e2,if_neg e2]
 by_cases e1:i=3*k+1
 ·rw[if_pos e1,if_neg (by omega),if_pos e1]
 rw[if_neg e1]
 by_cases e0:i=3*k
 ·rw[if_pos e0,if_pos e0]
 rw[if_neg e0,if_neg e0,if_neg e1]
theorem BB(hm:c.May)(hz:zs.length=c.size)(hk:k<2)(hb:b<c.N)(h0:nth zs (3*k)≠0):
  (((zs.set (eF c b) (nth zs (3*k))).set (3*k) ((b:Int)+1)).set (3*k+2) (nth zs (3*k+2)+1))=nD c k b zs:=by
 have hs:=hm.size
 have hl:=jE hm hb
 have hr:¬3*k+1=eF c b:=lI (by omega)
 refine mY (by simp) (fun i hi=> ?_)
 unfold mD
 rw[aI (by simp;omega),aI (by simp;omega),aI (by omega),if_neg h0]
 by_cases e2:i=3*k+2
 ·rw[if_pos e2,if_pos e2]
 rw[if_neg e2,if_neg e2]
 by_cases e0:i=3*k
 ·rw[if_pos e0,if_pos e0]
 rw[if_neg e0,if_neg e0]
 by_cases e1:i=3*k+1
 ·rw[if_pos e1,e1,if_neg hr]
 rw[if_neg e1]
theorem CX(hm:c.May)(hz:zs.length=c.size)(hk:k<2)(hb:b<c.N)(h0:nth zs (3*k+1)=0):
  ((((zs.set (eF c b) 0).set (3*k) ((b:Int)+1)).set (3*k+1) ((b:Int)+1)).set (3*k+2) (nth zs (3*k+2)+1))=gZ c k b zs:=by
 have hs:=hm.size
 have hl:=jE hm hb
 refine mY (by simp) (fun i hi=> ?_)
 unfold addN
 rw[aI (by simp;omega),aI (by simp;omega),aI (by simp;omega),aI (by omega),h0,if_pos rfl]
 by_cases e2:i=3*k+2
 ·rw[if_pos e2,if_pos e2]
 rw[if_neg e2,if_neg e2]
 by_cases e1:i=3*k+1
 ·rw[if_pos e1,if_neg (by omega),if_pos e1]
 rw[if_neg e1]
 by_cases e0:i=3*k
 ·rw[if_pos e0,if_pos e0]
 rw[if_neg e0,if_neg e0,if_neg e1]
 by_cases e:i=eF c b
 ·rw[if_pos e,if_pos e]
 rw[if_neg e,if_neg e,if_neg (by simp)]
theorem CY{x:Nat}(hm:c.May)(hz:zs.length=c.size)(hk:k<2)(hb:b<c.N)(hx:x<c.N)(hxb:x≠b)(h0:nth zs (3*k+1)=(x:Int)+1):
  ((((zs.set (eF c b) 0).set (eF c x) ((b:Int)+1)).set (3*k+1) ((b:Int)+1)).set (3*k+2) (nth zs (3*k+2)+1))=gZ c k b zs:=by
 have hs:=hm.size
 have hl:=jE hm hb
 have hlx:=jE hm hx
 have hr:¬3*k=eF c b:=lI (by omega)
 have hr':¬3*k=eF c x:=lI (by omega)
 have hbx:¬eF c b=eF c x:=fun e=>hxb (pX hm e).symm
 refine mY (by simp) (fun i hi=> ?_)
 unfold addN
 rw[aI (by simp;omega),aI (by simp;omega),aI (by simp;omega),aI (by omega),h0,if_neg (show ¬((x:Int)+1=0) by omega),show((x:Int)+1-1).toNat=x by omega]
 by_cases e2:i=3*k+2
 ·rw[if_pos e2,if_pos e2]
 rw[if_neg e2,if_neg e2]
 by_cases e1:i=3*k+1
 ·rw[if_pos e1,if_neg (by omega),if_pos e1]
 rw[if_neg e1]
 by_cases e0:i=3*k
 ·rw[if_pos e0,e0,if_neg hr',if_neg hr]
 rw[if_neg e0,if_neg e1]
 by_cases e:i=eF c b
 ·rw[if_pos e,e,if_neg hbx,if_pos rfl]
 rw[if_neg e,if_neg e]
 by_cases e':i=eF c x
 ·rw[if_pos e',if_pos ⟨by omega,e'⟩]
 rw[if_neg e',if_neg (fun h=>e' h.2)]
theorem Cg(hm:c.May)(hz:zs.length=c.size)(hk:k<2)(hb:b<c.N)(h0:nth zs (eF c b)=0):
  ((((zs.set (3*k) 0).set (3*k+1) 0).set (eF c b) 0).set (3*k+2) (nth zs (3*k+2)-1))=dD c k b zs:=by
 have hs:=hm.size
 have hl:=jE hm hb
 have hr1:¬3*k+1=eF c b:=lI (by omega)
 have hr0:¬3*k=eF c b:=lI (by omega)
 refine mY (by simp) (fun i hi=> ?_)
 unfold takeN
 rw[aI (by simp;omega),aI (by simp;omega),aI (by simp;omega),aI (by omega),h0,if_pos rfl]
 by_cases e2:i=3*k+2
 ·rw[if_pos e2,if_pos e2]
 rw[if_neg e2,if_neg e2]
 by_cases e:i=eF c b
 ·rw[if_pos e,if_neg (by omega),if_neg (by omega),if_pos e]
 rw[if_neg e,if_neg e]
 by_cases e1:i=3*k+1
 ·rw[if_pos e1,if_neg (by omega),if_pos e1]
 rw[if_neg e1,if_neg e1]
theorem Ch(hm:c.May)(hz:zs.length=c.size)(hk:k<2)(hb:b<c.N)(h0:nth zs (eF c b)≠0):
  (((zs.set (3*k) (nth zs (eF c b))).set (eF c b) 0).set (3*k+2) (nth zs (3*k+2)-1))=dD c k b zs:=by
 have hs:=hm.size
 have hl:=jE hm hb
 have hr1:¬3*k+1=eF c b:=lI (by omega)
 have hr0:¬3*k=eF c b:=lI (by omega)
 refine mY (by simp) (fun i hi=> ?_)
 unfold takeN
 rw[aI (by simp;omega),aI (by simp;omega),aI (by omega),if_neg h0]
 by_cases e2:i=3*k+2
 ·rw[if_pos e2,if_pos e2]
 rw[if_neg e2,if_neg e2]
 by_cases e:i=eF c b
 ·rw[if_pos e,if_neg (by omega),if_neg (by omega),if_pos e]
 rw[if_neg e,if_neg e]
 by_cases e1:i=3*k+1
 ·rw[e1,if_neg (by omega),if_neg (by omega),if_pos rfl]
 rw[if_neg e1]
end
theorem Ac(p:Pl)(c:Cf)(s:St)(q r:Nat)(x y:Int)(w:World)(hG:G w p c s)(hq:w.cell? ⟨q,0,none⟩=some (.pointer (some ⟨p.a,0,none⟩)))(hr:r<20)(hx:x=(r:Int))(hy:nth s.zs r=y):
  Calls Tryz.prog 237 #[.int .i64 x,.pointer (some ⟨q,0,none⟩)] w (GP w p c s.got (.tuple #[.int .i64 0,.int .i64 y])):=by
 have HG:=hid hG
 subst hx
 have e1:IntKind.i64.wrap ((r:Int)+0)=(r:Int):=by rw[Int.add_zero];exact IntWalk.i64_in _ (by omega)
 have HY:=hid hy
 clear hG hy
 go_enter Tryz.func237,Tryz.ntmps237
 go_wp2_with fail
 refine(jc p c s r _ _ _ HG.out (by omega) (by first|rfl|exact e1) HY.out).mono ?_
 rintro e w1 ⟨rfl,hG1,hT1⟩
 have HG1:=hid hG1
 have HT1:=hid hT1
 clear hG1 hT1
 go_wp2_with fail
 go_ret2
 exact⟨rfl,HG1.out,HT1.out⟩
theorem EL(p:Pl)(c:Cf)(s:St)(q r:Nat)(x y:Int)(w:World)(hG:G w p c s)(hq:w.cell? ⟨q,0,none⟩=some (.pointer (some ⟨p.a,0,none⟩)))(hr:r<20)(hx:x=(r:Int))(hy:nth s.zs (r+1)=y):
  Calls Tryz.prog 180 #[.int .i64 x,.pointer (some ⟨q,0,none⟩)] w (GP w p c s.got (.tuple #[.int .i64 y,.int .i64 0])):=by
 have HG:=hid hG
 subst hx
 have e1:IntKind.i64.wrap ((r:Int)+1)=((r+1:Nat):Int):=by rw[show(r:Int)+1=((r+1:Nat):Int) by omega];exact IntWalk.i64_in _ (by omega)
 have HY:=hid hy
 clear hG hy
 go_enter Tryz.func180,Tryz.ntmps180
 go_wp2_with fail
 refine(jc p c s (r+1) _ _ _ HG.out (by omega) (by first|rfl|exact e1) HY.out).mono ?_
 rintro e w1 ⟨rfl,hG1,hT1⟩
 have HG1:=hid hG1
 have HT1:=hid hT1
 clear hG1 hT1
 go_wp2_with fail
 go_ret2
 exact⟨rfl,HG1.out,HT1.out⟩
theorem lM{k:Nat}(hk:k<2):IntKind.i64.wrap (((3*k:Nat):Int)+0)=((3*k:Nat):Int)∧IntKind.i64.wrap (((3*k:Nat):Int)+1)=((3*k+1:Nat):Int)∧IntKind.i64.wrap (((3*k:Nat):Int)+2)=((3*k+2:Nat):Int):=by
 refine⟨?_,?_,?_⟩
 ·rw[Int.add_zero];exact IntWalk.i64_in _ (by omega)
 ·rw[show((3*k:Nat):Int)+1=((3*k+1:Nat):Int) by omega];exact IntWalk.i64_in _ (by omega)
 ·rw[show((3*k:Nat):Int)+2=((3*k+2:Nat):Int) by omega];exact IntWalk.i64_in _ (by omega)
theorem kv.to{tg ts e:TypeId}{w:World}{p:Pl}{c:Cf}{s:St}{zs:List Int}{m:Nat}(h:kv tg ts e w p c s)(hz:s.zs=zs)(hm:s.m=m):kv tg ts e w p c ⟨zs,m⟩:=by subst hz hm;exact h
theorem rQ(p:Pl)(c:Cf)(s:St)(k:Int)(w:World)(hG:G w p c s)(h:Ir c s.zs k):
  Calls Tryz.prog 124 #[.pointer (some ⟨p.a,0,none⟩),.int .i64 k] w (GP w p c ⟨s.zs,s.m+Qm k⟩ (.tuple #[.int .i64 0,.bool false])):=by
 have HG:=hid hG
 clear hG
 rcases h with h|⟨j,rfl,hj,hC⟩
 ·go_enter Tryz.func124,Tryz.ntmps124
  go_wp2_with fail
  refine(Dc p k _ h).mono ?_
  rintro e w1 ⟨rfl,rfl⟩
  go_wp2_with fail
  go_ret2
  exact⟨rfl,HG.out.to rfl (by unfold Qm;rw[if_neg h];rfl),Touch.refl _ _⟩
 ·have H0:=hid (hC.r0.trans (show iJ []=(0:Int) from rfl))
  have HR:=hid (jR p j w hj)
  have e1:IntKind.i64.wrap (((3*j:Nat):Int)+0)=((3*j:Nat):Int):=by rw[Int.add_zero];exact IntWalk.i64_in _ (by omega)
  clear hC
  go_enter Tryz.func124,Tryz.ntmps124
  go_wp2_with fail
  refine HR.out.mono ?_
  rintro e w1 ⟨rfl,rfl⟩
  go_wp2_with fail
  refine(jc p c s (3*j) _ _ _ HG.out (by omega) (by first|rfl|exact e1) H0.out).mono ?_
  rintro e w1 ⟨rfl,hG1,hT1⟩
  have HG1:=hid hG1
  have HT1:=hid hT1
  clear hG1 hT1
  go_wp2_with fail
  refine(xq p c s.got _ HG1.out).mono ?_
  rintro e w2 ⟨rfl,hb2⟩
  have HG2:=hid (HG1.out.later hb2)
  have HT2:=hid (HT1.out.trans (Touch.of_below hb2))
  clear hb2
  go_wp2_with fail
  go_ret2
  exact⟨rfl,HG2.out.to rfl (by unfold Qm;rw[if_pos (by omega)];rfl),HT2.out⟩
theorem Nt(p:Pl)(c:Cf)(s:St)(k:Nat)(l:List Nat)(w:World)(hG:G w p c s)(hC:aA c s.zs k l)(hk:k<2):
  Calls Tryz.prog 108 #[.pointer (some ⟨p.a,0,none⟩),.int .i64 (k:Int)] w (GP w p c s.got (.int .i64 (l.length:Int))):=by
 have HG:=hid hG
 have H0:=hid hC.r2
 have HR:=hid (jR p k w hk)
 have e1:IntKind.i64.wrap (((3*k:Nat):Int)+2)=((3*k+2:Nat):Int):=by rw[show((3*k:Nat):Int)+2=((3*k+2:Nat):Int) by omega];exact IntWalk.i64_in _ (by omega)
 clear hG hC
 go_enter Tryz.func108,Tryz.ntmps108
 go_wp2_with fail
 refine HR.out.mono ?_
 rintro e w1 ⟨rfl,rfl⟩
 go_wp2_with fail
 refine(jc p c s (3*k+2) _ _ _ HG.out (by omega) (by first|rfl|exact e1) H0.out).mono ?_
 rintro e w1 ⟨rfl,hG1,hT1⟩
 have HG1:=hid hG1
 have HT1:=hid hT1
 clear hG1 hT1
 go_wp2_with fail
 go_ret
 exact⟨rfl,HG1.out,HT1.out⟩
abbrev QL(w:World)(q:Nat)(p:Pl):Prop:=Blk w q #[.pointer (some ⟨p.a,0,none⟩)] 26
set_option maxHeartbeats 1000000 in
theorem Ag(p:Pl)(c:Cf)(s:St)(k b q:Nat)(l:List Nat)(w:World)(hG:G w p c s)(hC:aA c s.zs k l)(hk:k<2)(hb:b<c.N)(HQ:Hid (QL w q p))(hqo:¬inG p q):
  Calls Tryz.prog 179 #[.pointer (some ⟨p.a,0,none⟩),.int .i64 (k:Int),.int .i64 (b:Int),.func (.func 237) #[] #[.pointer (some ⟨q,0,none⟩)]] w (GP w p c ⟨nD c k b s.zs,s.m+jI l⟩ (.bool true)):=by
 have HG:=hid hG
 have hm:=hG.may
 have hz:=hG.len
 have hN:=hm.n
 have hW:=hm.w
 have hlk:=bA hC.nd hC.lt
 have r0:nth s.zs (3*k)=iJ l:=hC.r0
 obtain⟨n,hnl⟩:∃n:Nat,n=l.length:=⟨_,rfl⟩
 have hnN:n≤c.N:=by rw[hnl];exact hlk
 have r2:nth s.zs (3*k+2)=(n:Int):=by rw[hnl];exact hC.r2
 have HR:=hid (jR p k w hk)
 obtain⟨e0,e1,e2⟩:=lM hk
 have ew1:IntKind.i64.wrap ((b:Int)+1)=(b:Int)+1:=IntWalk.i64_in _ (by omega)
 have ew3:IntKind.i64.wrap ((n:Int)+1)=(n:Int)+1:=IntWalk.i64_in _ (by omega)
 have HB:=hid (ig hb)
 have R0:=hid r0
 have H5:Hid (5<c.W):=hid (by omega)
 have HQo:=hid hqo
 cases l with
 |nil=>
  have ew2:IntKind.u32.wrap 0=0:=IntWalk.u32_in _ (by omega)
  have HE:=hid (BA hm hz hk hb r0)
  rw[r2] at HE
  have R2:Hid (nth (((s.zs.set (eF c b) 0).set (3*k) ((b:Int)+1)).set (3*k+1) ((b:Int)+1)) (3*k+2)=(n:Int)):=hid (by
   rw[nth_set_ne (by omega),nth_set_ne (by omega),nth_set_ne (bD (by omega))];exact r2)
  clear hG hC hz r0 r2 hm hqo hnl
  go_enter Tryz.func179,Tryz.ntmps179
  have HT0:Hid (Touch (inG p) w w):=hid (Touch.refl _ _)
  go_wp2_with fail
  refine(HR.out).mono ?_
  rintro e wm0 ⟨rfl,rfl⟩
  go_wp2_with fail
  refine(qL p c s _ _ HG.out).mono ?_
  rw[HB.out]
  rintro e wm1 ⟨rfl,hb⟩
  have HG1:=hid (HG.out.later hb)
  have HT1:Hid (Touch (inG p) _ wm1):=hid (HT0.out.trans (Touch.of_below hb))
  have HQ1:=hid (HQ.out.later hb)
  clear hb
  go_wp2_with fail
  refine(Ac p c s q (3*k) _ 0 _ HG1.out (HQ1.out.cell 0 rfl) (by omega) rfl R0.out).mono ?_
  rintro e wm2 ⟨rfl,hG,hT⟩
  have HG2:=hid hG
  have HT2:Hid (Touch (inG p) _ wm2):=hid (HT1.out.trans hT)
  have HQ2:=hid (HQ1.out.touch hT HQo.out)
  clear hG hT
  go_wp2_with fail
  refine(aB p c s.got b 5 _ _ 0 _ HG2.out hb H5.out rfl rfl (by omega) (by omega)).mono ?_
  rintro e wm3 ⟨rfl,hG,hT⟩
  have HG3:=hid hG
  have HT3:Hid (Touch (inG p) _ wm3):=hid (HT2.out.trans hT)
  have HQ3:=hid (HQ2.out.touch hT HQo.out)
  clear hG hT
  go_wp2_with fail
  refine(aH p c _ (3*k) _ _ _ HG3.out (by omega) (by first|rfl|exact e0) (by omega) (by omega)).mono ?_
  rintro e wm4 ⟨rfl,hG,hT⟩
  have HG4:=hid hG
  have HT4:Hid (Touch (inG p) _ wm4):=hid (HT3.out.trans hT)
  have HQ4:=hid (HQ3.out.touch hT HQo.out)
  clear hG hT
  go_wp2_with fail
  refine(aH p c _ (3*k+1) _ _ _ HG4.out (by omega) (by first|rfl|exact e1) (by omega) (by omega)).mono ?_
  rintro e wm5 ⟨rfl,hG,hT⟩
  have HG5:=hid hG
  have HT5:Hid (Touch (inG p) _ wm5):=hid (HT4.out.trans hT)
  have HQ5:=hid (HQ4.out.touch hT HQo.out)
  clear hG hT
  go_wp2_with fail
  refine(jc p c _ (3*k+2) _ _ _ HG5.out (by omega) (by first|rfl|exact e2) R2.out).mono ?_
  rintro e wm6 ⟨rfl,hG,hT⟩
  have HG6:=hid hG
  have HT6:Hid (Touch (inG p) _ wm6):=hid (HT5.out.trans hT)
  have HQ6:=hid (HQ5.out.touch hT HQo.out)
  clear hG hT
  go_wp2_with fail
  refine(aH p c _ (3*k+2) _ _ _ HG6.out (by omega) (by first|rfl|exact e2) (by omega) (by omega)).mono ?_
  rintro e wm7 ⟨rfl,hG,hT⟩
  have HG7:=hid hG
  have HT7:Hid (Touch (inG p) _ wm7):=hid (HT6.out.trans hT)
  have HQ7:=hid (HQ6.out.touch hT HQo.out)
  clear hG hT
  go_wp2_with fail
  go_ret
  exact⟨rfl,HG7.out.to HE.out rfl,HT7.out⟩
 |cons a t=>
  have ha:=hC.lt a (by simp)
  have r0':nth s.zs (3*k)=(a:Int)+1:=r0
  have hbn:((a:Int)+1==0)=false:=lu (by omega)
  have ew2:IntKind.u32.wrap ((a:Int)+1)=(a:Int)+1:=IntWalk.u32_in _ (by omega)
  have HE:=hid (BB hm hz hk hb (by rw[r0'];omega))
  rw[r2,r0'] at HE
  have R2:Hid (nth ((s.zs.set (eF c b) ((a:Int)+1)).set (3*k) ((b:Int)+1)) (3*k+2)=(n:Int)):=hid (by
   rw[nth_set_ne (by omega),nth_set_ne (bD (by omega))];exact r2)
  clear hG hC hz r0 r0' r2 hm hqo hnl
  go_enter Tryz.func179,Tryz.ntmps179
  have HT0:Hid (Touch (inG p) w w):=hid (Touch.refl _ _)
  go_wp2_with fail
  refine(HR.out).mono ?_
  rintro e wm0 ⟨rfl,rfl⟩
  go_wp2_with fail
  refine(qL p c s _ _ HG.out).mono ?_
  rw[HB.out]
  rintro e wm1 ⟨rfl,hb⟩
  have HG1:=hid (HG.out.later hb)
  have HT1:Hid (Touch (inG p) _ wm1):=hid (HT0.out.trans (Touch.of_below hb))
  have HQ1:=hid (HQ.out.later hb)
  clear hb
  go_wp2_with fail
  refine(Ac p c s q (3*k) _ ((a:Int)+1) _ HG1.out (HQ1.out.cell 0 rfl) (by omega) rfl R0.out).mono ?_
  rintro e wm2 ⟨rfl,hG,hT⟩
  have HG2:=hid hG
  have HT2:Hid (Touch (inG p) _ wm2):=hid (HT1.out.trans hT)
  have HQ2:=hid (HQ1.out.touch hT HQo.out)
  clear hG hT
  go_wp2_with fail
  refine(aB p c s.got b 5 _ _ ((a:Int)+1) _ HG2.out hb H5.out rfl rfl (by omega) (by omega)).mono ?_
  rintro e wm3 ⟨rfl,hG,hT⟩
  have HG3:=hid hG
  have HT3:Hid (Touch (inG p) _ wm3):=hid (HT2.out.trans hT)
  have HQ3:=hid (HQ2.out.touch hT HQo.out)
  clear hG hT
  go_wp2_with fail
  refine(aH p c _ (3*k) _ _ _ HG3.out (by omega) (by first|rfl|exact e0) (by omega) (by omega)).mono ?_
  rintro e wm4 ⟨rfl,hG,hT⟩
  have HG4:=hid hG
  have HT4:Hid (Touch (inG p) _ wm4):=hid (HT3.out.trans hT)
  have HQ4:=hid (HQ3.out.touch hT HQo.out)
  clear hG hT
  go_wp2_with fail
  refine(jc p c _ (3*k+2) _ _ _ HG4.out (by omega) (by first|rfl|exact e2) R2.out).mono ?_
  rintro e wm5 ⟨rfl,hG,hT⟩
  have HG5:=hid hG
  have HT5:Hid (Touch (inG p) _ wm5):=hid (HT4.out.trans hT)
  have HQ5:=hid (HQ4.out.touch hT HQo.out)
  clear hG hT
  go_wp2_with fail
  refine(aH p c _ (3*k+2) _ _ _ HG5.out (by omega) (by first|rfl|exact e2) (by omega) (by omega)).mono ?_
  rintro e wm6 ⟨rfl,hG,hT⟩
  have HG6:=hid hG
  have HT6:Hid (Touch (inG p) _ wm6):=hid (HT5.out.trans hT)
  have HQ6:=hid (HQ5.out.touch hT HQo.out)
  clear hG hT
  go_wp2_with fail
  go_ret
  exact⟨rfl,HG6.out.to HE.out rfl,HT6.out⟩
set_option maxHeartbeats 1000000 in
theorem Dh(p:Pl)(c:Cf)(s:St)(k b q:Nat)(l:List Nat)(w:World)(hG:G w p c s)(hC:aA c s.zs k l)(hk:k<2)(hb:b<c.N)(hn:b∉l)(HQ:Hid (QL w q p))(hqo:¬inG p q):
  Calls Tryz.prog 179 #[.pointer (some ⟨p.a,0,none⟩),.int .i64 (k:Int),.int .i64 (b:Int),.func (.func 180) #[] #[.pointer (some ⟨q,0,none⟩)]] w (GP w p c ⟨gZ c k b s.zs,s.m+6⟩ (.bool true)):=by
 have HG:=hid hG
 have hm:=hG.may
 have hz:=hG.len
 have hN:=hm.n
 have hW:=hm.w
 have hlk:=bA hC.nd hC.lt
 have r1:nth s.zs (3*k+1)=jF l:=hC.r1
 obtain⟨n,hnl⟩:∃n:Nat,n=l.length:=⟨_,rfl⟩
 have hnN:n≤c.N:=by rw[hnl];exact hlk
 have r2:nth s.zs (3*k+2)=(n:Int):=by rw[hnl];exact hC.r2
 have HR:=hid (jR p k w hk)
 obtain⟨e0,e1,e2⟩:=lM hk
 have ew1:IntKind.i64.wrap ((b:Int)+1)=(b:Int)+1:=IntWalk.i64_in _ (by omega)
 have ew3:IntKind.i64.wrap ((n:Int)+1)=(n:Int)+1:=IntWalk.i64_in _ (by omega)
 have ew2:IntKind.u32.wrap 0=0:=IntWalk.u32_in _ (by omega)
 have HB:=hid (ig hb)
 have H5:Hid (5<c.W):=hid (by omega)
 have HQo:=hid hqo
 by_cases hl:l=[]
 ·subst hl
  have r1':nth s.zs (3*k+1)=0:=r1
  have R1:=hid r1'
  have HE:=hid (CX hm hz hk hb r1')
  rw[r2] at HE
  have R2:Hid (nth (((s.zs.set (eF c b) 0).set (3*k) ((b:Int)+1)).set (3*k+1) ((b:Int)+1)) (3*k+2)=(n:Int)):=hid (by
   rw[nth_set_ne (by omega),nth_set_ne (by omega),nth_set_ne (bD (by omega))];exact r2)
  clear hG hC hz r1 r1' r2 hm hqo hnl
  go_enter Tryz.func179,Tryz.ntmps179
  have HT0:Hid (Touch (inG p) w w):=hid (Touch.refl _ _)
  go_wp2_with fail
  refine(HR.out).mono ?_
  rintro e wm0 ⟨rfl,rfl⟩
  go_wp2_with fail
  refine(qL p c s _ _ HG.out).mono ?_
  rw[HB.out]
  rintro e wm1 ⟨rfl,hb⟩
  have HG1:=hid (HG.out.later hb)
  have HT1:Hid (Touch (inG p) _ wm1):=hid (HT0.out.trans (Touch.of_below hb))
  have HQ1:=hid (HQ.out.later hb)
  clear hb
  go_wp2_with fail
  refine(EL p c s q (3*k) _ 0 _ HG1.out (HQ1.out.cell 0 rfl) (by omega) rfl R1.out).mono ?_
  rintro e wm2 ⟨rfl,hG,hT⟩
  have HG2:=hid hG
  have HT2:Hid (Touch (inG p) _ wm2):=hid (HT1.out.trans hT)
  have HQ2:=hid (HQ1.out.touch hT HQo.out)
  clear hG hT
  go_wp2_with fail
  refine(aB p c s.got b 5 _ _ 0 _ HG2.out hb H5.out rfl rfl (by omega) (by omega)).mono ?_
  rintro e wm3 ⟨rfl,hG,hT⟩
  have HG3:=hid hG
  have HT3:Hid (Touch (inG p) _ wm3):=hid (HT2.out.trans hT)
  have HQ3:=hid (HQ2.out.touch hT HQo.out)
  clear hG hT
  go_wp2_with fail
  refine(aH p c _ (3*k) _ _ _ HG3.out (by omega) (by first|rfl|exact e0) (by omega) (by omega)).mono ?_
  rintro e wm4 ⟨rfl,hG,hT⟩
  have HG4:=hid hG
  have HT4:Hid (Touch (inG p) _ wm4):=hid (HT3.out.trans hT)
  have HQ4:=hid (HQ3.out.touch hT HQo.out)
  clear hG hT
  go_wp2_with fail
  refine(aH p c _ (3*k+1) _ _ _ HG4.out (by omega) (by first|rfl|exact e1) (by omega) (by omega)).mono ?_
  rintro e wm5 ⟨rfl,hG,hT⟩
  have HG5:=hid hG
  have HT5:Hid (Touch (inG p) _ wm5):=hid (HT4.out.trans hT)
  have HQ5:=hid (HQ4.out.touch hT HQo.out)
  clear hG hT
  go_wp2_with fail
  refine(jc p c _ (3*k+2) _ _ _ HG5.out (by omega) (by first|rfl|exact e2) R2.out).mono ?_
  rintro e wm6 ⟨rfl,hG,hT⟩
  have HG6:=hid hG
  have HT6:Hid (Touch (inG p) _ wm6):=hid (HT5.out.trans hT)
  have HQ6:=hid (HQ5.out.touch hT HQo.out)
  clear hG hT
  go_wp2_with fail
  refine(aH p c _ (3*k+2) _ _ _ HG6.out (by omega) (by first|rfl|exact e2) (by omega) (by omega)).mono ?_
  rintro e wm7 ⟨rfl,hG,hT⟩
  have HG7:=hid hG
  have HT7:Hid (Touch (inG p) _ wm7):=hid (HT6.out.trans hT)
  have HQ7:=hid (HQ6.out.touch hT HQo.out)
  clear hG hT
  go_wp2_with fail
  go_ret
  exact⟨rfl,HG7.out.to HE.out rfl,HT7.out⟩
 ·obtain⟨a,hal,hae⟩:=fM l hl
  have ha:=hC.lt a hal
  have r1':nth s.zs (3*k+1)=(a:Int)+1:=r1.trans hae
  have R1:=hid r1'
  have hbn:((a:Int)+1==0)=false:=lu (by omega)
  have ew4:IntKind.u32.wrap ((b:Int)+1)=(b:Int)+1:=IntWalk.u32_in _ (by omega)
  have ew5:IntKind.i64.wrap ((a:Int)+1-1)=(a:Int):=by rw[Int.add_sub_cancel];exact IntWalk.i64_in _ (by omega)
  have HE:=hid (CY hm hz hk hb ha (fun e=>hn (by rw[←e];exact hal)) r1')
  rw[r2] at HE
  have R2:Hid (nth (((s.zs.set (eF c b) 0).set (eF c a) ((b:Int)+1)).set (3*k+1) ((b:Int)+1)) (3*k+2)=(n:Int)):=hid (by
   rw[nth_set_ne (by omega),nth_set_ne (bD (by omega)),nth_set_ne (bD (by omega))];exact r2)
  clear hG hC hz r1 r1' r2 hm hqo hnl hae hal hl hn
  go_enter Tryz.func179,Tryz.ntmps179
  have HT0:Hid (Touch (inG p) w w):=hid (Touch.refl _ _)
  go_wp2_with fail
  refine(HR.out).mono ?_
  rintro e wm0 ⟨rfl,rfl⟩
  go_wp2_with fail
  refine(qL p c s _ _ HG.out).mono ?_
  rw[HB.out]
  rintro e wm1 ⟨rfl,hb⟩
  have HG1:=hid (HG.out.later hb)
  have HT1:Hid (Touch (inG p) _ wm1):=hid (HT0.out.trans (Touch.of_below hb))
  have HQ1:=hid (HQ.out.later hb)
  clear hb
  go_wp2_with fail
  refine(EL p c s q (3*k) _ ((a:Int)+1) _ HG1.out (HQ1.out.cell 0 rfl) (by omega) rfl R1.out).mono ?_
  rintro e wm2 ⟨rfl,hG,hT⟩
  have HG2:=hid hG
  have HT2:Hid (Touch (inG p) _ wm2):=hid (HT1.out.trans hT)
  have HQ2:=hid (HQ1.out.touch hT HQo.out)
  clear hG hT
  go_wp2_with fail
  refine(aB p c s.got b 5 _ _ 0 _ HG2.out hb H5.out rfl rfl (by omega) (by omega)).mono ?_
  rintro e wm3 ⟨rfl,hG,hT⟩
  have HG3:=hid hG
  have HT3:Hid (Touch (inG p) _ wm3):=hid (HT2.out.trans hT)
  have HQ3:=hid (HQ2.out.touch hT HQo.out)
  clear hG hT
  go_wp2_with fail
  refine(aB p c _ a 5 _ _ ((b:Int)+1) _ HG3.out ha H5.out (by first|rfl|exact ew5) rfl (by omega) (by omega)).mono ?_
  rintro e wm4 ⟨rfl,hG,hT⟩
  have HG4:=hid hG
  have HT4:Hid (Touch (inG p) _ wm4):=hid (HT3.out.trans hT)
  have HQ4:=hid (HQ3.out.touch hT HQo.out)
  clear hG hT
  go_wp2_with fail
  refine(aH p c _ (3*k+1) _ _ _ HG4.out (by omega) (by first|rfl|exact e1) (by omega) (by omega)).mono ?_
  rintro e wm5 ⟨rfl,hG,hT⟩
  have HG5:=hid hG
  have HT5:Hid (Touch (inG p) _ wm5):=hid (HT4.out.trans hT)
  have HQ5:=hid (HQ4.out.touch hT HQo.out)
  clear hG hT
  go_wp2_with fail
  refine(jc p c _ (3*k+2) _ _ _ HG5.out (by omega) (by first|rfl|exact e2) R2.out).mono ?_
  rintro e wm6 ⟨rfl,hG,hT⟩
  have HG6:=hid hG
  have HT6:Hid (Touch (inG p) _ wm6):=hid (HT5.out.trans hT)
  have HQ6:=hid (HQ5.out.touch hT HQo.out)
  clear hG hT
  go_wp2_with fail
  refine(aH p c _ (3*k+2) _ _ _ HG6.out (by omega) (by first|rfl|exact e2) (by omega) (by omega)).mono ?_
  rintro e wm7 ⟨rfl,hG,hT⟩
  have HG7:=hid hG
  have HT7:Hid (Touch (inG p) _ wm7):=hid (HT6.out.trans hT)
  have HQ7:=hid (HQ6.out.touch hT HQo.out)
  clear hG hT
  go_wp2_with fail
  go_ret
  exact⟨rfl,HG7.out.to HE.out rfl,HT7.out⟩
theorem tC{w:World}{p:Pl}{c:Cf}{s:St}(h:G w p c s):¬inG p w.heap.size:=by
 rintro(hx|hx)
 ·have:=h.st.head.lt;omega
 ·have:=h.st.body.lt;omega
theorem GP.ER{w w':World}{p:Pl}{c:Cf}{s:St}{v:Value}{o:Obj}{e:Ending}(h:GP (w.alloc o) p c s v e w'):GP w p c s v e w':=
 ⟨h.1,h.2.1,(Touch.of_below (below_new w o)).trans h.2.2⟩
theorem Df(p:Pl)(c:Cf)(s:St)(k b:Nat)(l:List Nat)(w:World)(hG:G w p c s)(hC:aA c s.zs k l)(hk:k<2)(hb:b<c.N)(hn:b∉l):
  Calls Tryz.prog 227 #[.pointer (some ⟨p.a,0,none⟩),.int .i64 (k:Int),.int .i64 (b:Int)] w (GP w p c ⟨nD c k b s.zs,s.m+jI l⟩ (.bool true)):=by
 have hmf:∀(fn:Fn) (first cap:Array Value) (w:World),(Instr.makeFunc fn first cap).run Tryz.prog w=.ok (.func fn first cap) w:=fun _ _ _ _=>rfl
 have H:=hid (Ag p c s k b w.heap.size l (w.alloc (.cells #[.pointer (some ⟨p.a,0,none⟩)] 26)) (hG.alloc _) hC hk hb (hid (Blk.new w #[.pointer (some ⟨p.a,0,none⟩)] 26)) (tC hG))
 clear hG hC hn
 go_enter Tryz.func227,Tryz.ntmps227
 go_wp2_with fail
 refine H.out.mono ?_
 rintro e w1 h
 obtain⟨rfl,h2,h5⟩:=h.ER
 have H2:=hid h2
 have H5:=hid h5
 clear h h2 h5
 go_wp2_with fail
 go_ret
 exact⟨rfl,H2.out,H5.out⟩
theorem xw(p:Pl)(c:Cf)(s:St)(k b:Nat)(l:List Nat)(w:World)(hG:G w p c s)(hC:aA c s.zs k l)(hk:k<2)(hb:b<c.N)(hn:b∉l):
  Calls Tryz.prog 125 #[.pointer (some ⟨p.a,0,none⟩),.int .i64 (k:Int),.int .i64 (b:Int)] w (GP w p c ⟨gZ c k b s.zs,s.m+6⟩ (.bool true)):=by
 have hmf:∀(fn:Fn) (first cap:Array Value) (w:World),(Instr.makeFunc fn first cap).run Tryz.prog w=.ok (.func fn first cap) w:=fun _ _ _ _=>rfl
 have H:=hid (Dh p c s k b w.heap.size l (w.alloc (.cells #[.pointer (some ⟨p.a,0,none⟩)] 26)) (hG.alloc _) hC hk hb hn (hid (Blk.new w #[.pointer (some ⟨p.a,0,none⟩)] 26)) (tC hG))
 clear hG hC hn
 go_enter Tryz.func125,Tryz.ntmps125
 go_wp2_with fail
 refine H.out.mono ?_
 rintro e w1 h
 obtain⟨rfl,h2,h5⟩:=h.ER
 have H2:=hid h2
 have H5:=hid h5
 clear h h2 h5
 go_wp2_with fail
 go_ret
 exact⟨rfl,H2.out,H5.out⟩
set_option maxHeartbeats 1000000 in
theorem ug(p:Pl)(c:Cf)(s:St)(k b:Nat)(l:List Nat)(w:World)(hG:G w p c s)(hC:aA c s.zs k (b::l))(hk:k<2):
  Calls Tryz.prog 163 #[.pointer (some ⟨p.a,0,none⟩),.int .i64 (k:Int)] w (GP w p c ⟨dD c k b s.zs,s.m+takeD l⟩ (.tuple #[.int .i64 (b:Int),.bool true])):=by
 have HG:=hid hG
 have hm:=hG.may
 have hz:=hG.len
 have hN:=hm.n
 have hW:=hm.w
 have hb:=hC.lt b (by simp)
 have hlk:=bA hC.nd hC.lt
 have rl:nth s.zs (eF c b)=iJ l:=hC.ln.1
 have HL:=hid rl
 obtain⟨n,hnl⟩:∃n:Nat,n=l.length:=⟨_,rfl⟩
 have r2:nth s.zs (3*k+2)=(n:Int)+1:=by rw[hnl];rw[hC.r2];simp
 have hnN:n+1≤c.N:=by rw[hnl];simpa using hlk
 have HR:=hid (jR p k w hk)
 have HR':=hid (fun w'=>jR p k w' hk)
 have HF:=hid (Aa p c s k b l w hG hC hk)
 obtain⟨e0,e1,e2⟩:=lM hk
 have ew3:IntKind.i64.wrap ((n:Int)+1-1)=(n:Int):=by rw[Int.add_sub_cancel];exact IntWalk.i64_in _ (by omega)
 have H5:Hid (5<c.W):=hid (by omega)
 cases l with
 |nil=>
  have rl0:nth s.zs (eF c b)=0:=rl
  have HL0:=hid rl0
  have ew2:IntKind.i64.wrap 0=0:=IntWalk.i64_in _ (by omega)
  have HE:=hid (Cg hm hz hk hb rl0)
  rw[r2,Int.add_sub_cancel] at HE
  have R2:Hid (nth (((s.zs.set (3*k) 0).set (3*k+1) 0).set (eF c b) 0) (3*k+2)=(n:Int)+1):=hid (by
   rw[nth_set_ne (bD (by omega)),nth_set_ne (by omega),nth_set_ne (by omega)];exact r2)
  clear hG hC hz r2 hm rl rl0 HL hlk hnl
  go_enter Tryz.func163,Tryz.ntmps163
  have HT0:Hid (Touch (inG p) w w):=hid (Touch.refl _ _)
  go_wp2_with fail
  refine(HF.out).mono ?_
  rintro e wm1 ⟨rfl,hG,hT⟩
  have HG1:=hid hG
  have HT1:Hid (Touch (inG p) _ wm1):=hid (HT0.out.trans hT)
  clear hG hT
  go_wp2_with fail
  refine(HR'.out _).mono ?_
  rintro e wm0 ⟨rfl,rfl⟩
  go_wp2_with fail
  refine(ek p c s.got b 5 _ _ _ _ HG1.out hb H5.out rfl rfl HL0.out).mono ?_
  rintro e wm2 ⟨rfl,hG,hT⟩
  have HG2:=hid hG
  have HT2:Hid (Touch (inG p) _ wm2):=hid (HT1.out.trans hT)
  clear hG hT
  go_wp2_with fail
  refine(aH p c _ (3*k) _ _ _ HG2.out (by omega) (by first|rfl|exact e0) (by omega) (by omega)).mono ?_
  rintro e wm3 ⟨rfl,hG,hT⟩
  have HG3:=hid hG
  have HT3:Hid (Touch (inG p) _ wm3):=hid (HT2.out.trans hT)
  clear hG hT
  go_wp2_with fail
  refine(aH p c _ (3*k+1) _ _ _ HG3.out (by omega) (by first|rfl|exact e1) (by omega) (by omega)).mono ?_
  rintro e wm4 ⟨rfl,hG,hT⟩
  have HG4:=hid hG
  have HT4:Hid (Touch (inG p) _ wm4):=hid (HT3.out.trans hT)
  clear hG hT
  go_wp2_with fail
  refine(aB p c _ b 5 _ _ 0 _ HG4.out hb H5.out rfl rfl (by omega) (by omega)).mono ?_
  rintro e wm5 ⟨rfl,hG,hT⟩
  have HG5:=hid hG
  have HT5:Hid (Touch (inG p) _ wm5):=hid (HT4.out.trans hT)
  clear hG hT
  go_wp2_with fail
  refine(jc p c _ (3*k+2) _ _ _ HG5.out (by omega) (by first|rfl|exact e2) R2.out).mono ?_
  rintro e wm6 ⟨rfl,hG,hT⟩
  have HG6:=hid hG
  have HT6:Hid (Touch (inG p) _ wm6):=hid (HT5.out.trans hT)
  clear hG hT
  go_wp2_with fail
  refine(aH p c _ (3*k+2) _ _ _ HG6.out (by omega) (by first|rfl|exact e2) (by omega) (by omega)).mono ?_
  rintro e wm7 ⟨rfl,hG,hT⟩
  have HG7:=hid hG
  have HT7:Hid (Touch (inG p) _ wm7):=hid (HT6.out.trans hT)
  clear hG hT
  go_wp2_with fail
  go_ret2
  exact⟨rfl,HG7.out.to HE.out rfl,HT7.out⟩
 |cons a t=>
  have ha:=hC.lt a (by simp)
  have rl1:nth s.zs (eF c b)=(a:Int)+1:=rl
  have HL1:=hid rl1
  have hbn:((a:Int)+1==0)=false:=lu (by omega)
  have ew2:IntKind.i64.wrap ((a:Int)+1)=(a:Int)+1:=IntWalk.i64_in _ (by omega)
  have HE:=hid (Ch hm hz hk hb (by rw[rl1];omega))
  rw[r2,rl1,Int.add_sub_cancel] at HE
  have R2:Hid (nth ((s.zs.set (3*k) ((a:Int)+1)).set (eF c b) 0) (3*k+2)=(n:Int)+1):=hid (by
   rw[nth_set_ne (bD (by omega)),nth_set_ne (by omega)];exact r2)
  clear hG hC hz r2 hm rl rl1 HL hlk hnl
  go_enter Tryz.func163,Tryz.ntmps163
  have HT0:Hid (Touch (inG p) w w):=hid (Touch.refl _ _)
  go_wp2_with fail
  refine(HF.out).mono ?_
  rintro e wm1 ⟨rfl,hG,hT⟩
  have HG1:=hid hG
  have HT1:Hid (Touch (inG p) _ wm1):=hid (HT0.out.trans hT)
  clear hG hT
  go_wp2_with fail
  refine(HR'.out _).mono ?_
  rintro e wm0 ⟨rfl,rfl⟩
  go_wp2_with fail
  refine(ek p c s.got b 5 _ _ _ _ HG1.out hb H5.out rfl rfl HL1.out).mono ?_
  rintro e wm2 ⟨rfl,hG,hT⟩
  have HG2:=hid hG
  have HT2:Hid (Touch (inG p) _ wm2):=hid (HT1.out.trans hT)
  clear hG hT
  go_wp2_with fail
  refine(aH p c _ (3*k) _ _ _ HG2.out (by omega) (by first|rfl|exact e0) (by omega) (by omega)).mono ?_
  rintro e wm3 ⟨rfl,hG,hT⟩
  have HG3:=hid hG
  have HT3:Hid (Touch (inG p) _ wm3):=hid (HT2.out.trans hT)
  clear hG hT
  go_wp2_with fail
  refine(aB p c _ b 5 _ _ 0 _ HG3.out hb H5.out rfl rfl (by omega) (by omega)).mono ?_
  rintro e wm4 ⟨rfl,hG,hT⟩
  have HG4:=hid hG
  have HT4:Hid (Touch (inG p) _ wm4):=hid (HT3.out.trans hT)
  clear hG hT
  go_wp2_with fail
  refine(jc p c _ (3*k+2) _ _ _ HG4.out (by omega) (by first|rfl|exact e2) R2.out).mono ?_
  rintro e wm5 ⟨rfl,hG,hT⟩
  have HG5:=hid hG
  have HT5:Hid (Touch (inG p) _ wm5):=hid (HT4.out.trans hT)
  clear hG hT
  go_wp2_with fail
  refine(aH p c _ (3*k+2) _ _ _ HG5.out (by omega) (by first|rfl|exact e2) (by omega) (by omega)).mono ?_
  rintro e wm6 ⟨rfl,hG,hT⟩
  have HG6:=hid hG
  have HT6:Hid (Touch (inG p) _ wm6):=hid (HT5.out.trans hT)
  clear hG hT
  go_wp2_with fail
  go_ret2
  exact⟨rfl,HG6.out.to HE.out rfl,HT6.out⟩
theorem GK{w w':World}{base:Nat}{e:TypeId}{size:Nat}{v:Value}{n:Nat}{xs:List Value}(h:w.ownsRow base e size v n xs)(hb:Below w.heap.size w w'):w'.ownsRow base e size v n xs:=by
 refine⟨h.1,?_⟩
 rcases h.2 with hn|⟨g,cap,cur,rfl,hbg,hgg,rest⟩
 ·exact .inl hn
 ·exact .inr ⟨g,cap,cur,rfl,hbg,(hb.block g (lt_of_block hgg)).trans hgg,rest⟩
theorem eu.later{w wr w':World}{v:Value}{k:Nat}{zs:List Int}(h:eu w v k zs wr)(hb:Below wr.heap.size wr w'):eu w v k zs w':=⟨GK h.1 hb,below_step h.2 hb⟩
theorem eu.size{w wr:World}{v:Value}{k:Nat}{zs:List Int}(h:eu w v k zs wr):w.heap.size≤wr.heap.size:=h.2.size
def Le(l:List Nat)(k:Nat):Int:=iJ (l.drop k)
theorem NR{l:List Nat}{k:Nat}(h:k<l.length):Le l k=(l[k]:Int)+1:=by
 unfold Le;rw[List.drop_eq_getElem_cons h];rfl
theorem Mg{l:List Nat}{k:Nat}(h:l.length≤k):Le l k=0:=by
 unfold Le;rw[List.drop_eq_nil_of_le h];rfl
theorem Bf{c:Cf}{zs:List Int}:∀{l:List Nat},mi c zs l→∀k,(h:k<l.length)→nth zs (eF c l[k])=Le l (k+1)
 |[],_,k,h=>absurd h (by simp)
 |b::t,hl,0,_=>hl.1
 |b::t,hl,k+1,h=>Bf hl.2 k (by simpa using h)
theorem uq{l:List Nat}{k:Nat}(hk:k<l.length):(ints l).take (k+1)=(ints l).take k++[(l[k]:Int)]:=by
 have:=gD (zs:=ints l) (k:=k) (by rw[ae];exact hk)
 rw[this,iK hk]
set_option maxHeartbeats 2000000 in
theorem oL(p:Pl)(c:Cf)(s:St)(k:Nat)(l:List Nat)(w:World)(hG:G w p c s)(hC:aA c s.zs k l)(hk:k<2):
  Calls Tryz.prog 109 #[.pointer (some ⟨p.a,0,none⟩),.int .i64 (k:Int)] w (yo w l):=by
 obtain⟨i0,hi,hz0,hz1,hz2⟩:=info_parts infoInt
 have HG:=hid hG
 have hm:=hG.may
 have hN:=hm.n
 have hlk:=bA hC.nd hC.lt
 have HR:=hid (jR p k w hk)
 obtain⟨e0,e1,e2⟩:=lM hk
 have hW:=hm.w
 have H5:Hid (5<c.W):=hid (by omega)
 have HC:=hid hC
 have HNx:=hid (Bf hC.ln)
 have hfd:=cfield0 (c.N:Int) (c.W:Int) (c.R:Int) (c.K:Int)
 have H0:Hid (nth s.zs (3*k)=Le l 0):=hid hC.r0
 clear hG hC hm
 go_enter Tryz.func109,Tryz.ntmps109
 have HT0:Hid (Below w.heap.size w w):=hid (Below.refl _ _)
 go_wp2_with fail
 refine(HR.out).mono ?_
 rintro e wm0 ⟨rfl,rfl⟩
 go_wp2_with fail
 refine(tL p c s (3*k) _ _ _ HG.out (by omega) (by first|rfl|exact e0) H0.out).mono ?_
 rintro e wm0 ⟨rfl,rfl⟩
 go_wp2_with fail
 refine(eT p c s _ HG.out).mono ?_
 rintro e wm1 ⟨rfl,hb⟩
 have HG1:=hid (HG.out.later hb)
 have HT1:Hid (Below w.heap.size w wm1):=hid (below_step HT0.out hb)
 clear hb
 go_wp2_with fail
 go_loopw [7,8,26] (fun v nm i wr=>∃j:Nat,j≤l.length∧i=.int .i64 j∧nm=.int .i64 (Le l j)∧eu w v j ((ints l).take j) wr) (fun _ _ i _=>c.N-(intOf i).toNat)
 case atStart=>
  refine⟨0,Nat.zero_le _,rfl,rfl,?_,HT1.out⟩
  exact World.ownsRow_nil _ _ _ _
 case round=>
  obtain⟨j,hj,rfl,rfl,hga⟩:=hrel
  have HGa:=hid hga
  have HG0:=HG
  have HGr:Hid (G wr p c s):=hid (HG0.out.later hga.2)
  clear hga
  by_cases hlt:j<l.length
  ·have hjN:j<c.N:=by omega
   have hb:l[j]<c.N:=HC.out.lt _ (List.getElem_mem hlt)
   have HTk:=hid (uq hlt)
   have HNm:=hid (NR hlt)
   have HN1:=hid (HNx.out j hlt)
   have hwf:=HG0.out.wf (eF c l[j])
   rw[HN1.out] at hwf
   generalize l[j]=b at*
   have i1:IntKind.i64.wrap (Le l (j+1))=Le l (j+1):=IntWalk.i64_in _ (by omega)
   go_wp2_with fail
   refine(Ab p c s b _ _ HGr.out hb HNm.out).mono ?_
   rintro e w3 ⟨rfl,hb3⟩
   have HG3:=hid (HGr.out.later hb3)
   have HGa3:=hid (HGa.out.later hb3)
   have hown:=HGa3.out.1
   have hsz:=HGa3.out.2.size
   clear hb3
   go_wp2_with (at_builtin;refine wpList_append_own _ rfl _ _ 39 rfl w.heap.size 3 i0 (.int .i64 0) 1 8 Tryz.underlying39 hi hz0 hz1 hz2 rfl (by decide) _ _ _ rfl (hown.alloc _) ⟨w3.heap.size,0,none⟩ 1 1 [.int .i64 (b:Int)] rfl rfl ?c1 ?c2 ?c3 ?c4 ?c5 ?c6)
   case c1=>exact cell_one_new w3 _ _
   case c2=>intro u hu;simp at hu;subst hu;rfl
   case c3=>unfold maxLen;omega
   case c4=>omega
   case c5=>simp;omega
   case c6=>
    intro v' w4 hown' hgrow _
    have hbel1:Below w.heap.size w w4:=(HGa3.out.2.alloc hsz _).grown hgrow (by simp;omega) (owns_block hown)
    have HG4:Hid (eu w v' (j+1) ((ints l).take (j+1)) w4):=hid (by
     refine⟨?_,hbel1⟩
     rw[HTk.out]
     simpa using hown')
    have HGr4:Hid (G w4 p c s):=hid (HG0.out.later hbel1)
    clear hown' hgrow hbel1 hown hsz
    go_wp2_with fail
    refine(nL p c s b 5 _ _ _ _ HGr4.out hb H5.out rfl rfl HN1.out).mono ?_
    rintro e w5 ⟨rfl,hd⟩
    have HG5:=hid (HG4.out.later hd.new)
    clear hd
    go_wp2_with fail
    go_roundw
    case rel=>exact⟨j+1,by omega,by go_num,rfl,HG5.out⟩
    case measure=>simp[intOf];omega
  ·have he:j=l.length:=by omega
   have HNm:Hid (Le l j=0):=hid (Mg (by omega))
   rw[HNm.out]
   have HO:Hid (∀w',Below wr.heap.size wr w'→yo w l (.returned u7) w'):=hid (by
    intro w' hb
    have h1:=HGa.out.later hb
    rw[he,←ae l,List.take_length] at h1
    exact(bN.mk rfl h1).ints rfl)
   clear he
   by_cases hjN:j<c.N
   ·go_wp2_with fail
    refine(xq p c s _ HGr.out).mono ?_
    rintro e w3 ⟨rfl,hb3⟩
    have HO3:=hid (HO.out _ hb3)
    clear hb3
    go_wp2_with fail
    go_ret
    exact HO3.out
   ·have HO3:=hid (HO.out _ (Below.refl _ _))
    go_wp2_with fail
    go_ret
    exact HO3.out
def rV(k:Int):Bool:=k%4==1||k%4==2
def QH(k:Int):Int:=if rV k=true then k/4%2 else 0
def QI(k:Int):Int:=if rV k=true then k/8%2 else 0
def vB(k:Int):Int:=bJ (k%4) (QH k) 0 (QI k) 0 0 0
theorem qU{k:Int}:rV k=true↔(k%4=1∨k%4=2):=by unfold rV;simp
theorem GZ(k:Int):bv (k%4) (QH k) 0 (QI k) 0 0 0:=by
 unfold bv QH QI
 by_cases h:rV k=true
 ·rw[if_pos h,if_pos h];rw[qU] at h;omega
 ·rw[if_neg h,if_neg h];rw[qU] at h;omega
theorem Kt(k:Int):uK (vB k)=k%4∧uG (vB k)=0∧bK (vB k):=by
 have h:=GZ k
 have hu:=unpack_pack h
 refine⟨hu.1,?_,?_⟩
 ·unfold vB uG bJ;unfold bv at h;omega
 ·refine⟨?_,?_,?_⟩
  ·unfold vB
   rw[hu.1,hu.2.1,hu.2.2.1,hu.2.2.2.1,hu.2.2.2.2.1,hu.2.2.2.2.2.1,hu.2.2.2.2.2.2]
   exact h
  ·unfold vB bJ;unfold bv at h;omega
  ·unfold vB bJ;unfold bv at h;omega
theorem Ku{k:Int}:bf (vB k)↔rV k=true:=by unfold bf;rw[(Kt k).1,qU]
def Made(c:Cf)(ks:List Int)(j:Nat)(zs:List Int):Prop:=
 (∀b,b<c.N→nth zs (adr c b 0)=if b<j then vB (nth ks b) else 0)∧∀i,(∀b,b<c.N→i≠adr c b 0)→nth zs i=0
theorem Made.step{c:Cf}{ks:List Int}{j:Nat}{zs:List Int}(h:Made c ks j zs)(hm:c.May)(hz:zs.length=c.size)(hj:j<c.N):Made c ks (j+1) (zs.set (adr c j 0) (vB (nth ks j))):=by
 have hl:=eO hm hj (show 0<16 by omega)
 refine⟨fun b hb=> ?_,fun i hi=> ?_⟩
 ·rw[aI (by omega)]
  simp only[eG hm (show 0<16 by omega) (show 0<16 by omega),and_true]
  by_cases e:b=j
  ·rw[if_pos e,if_pos (by omega),e]
  ·rw[if_neg e,h.1 b hb]
   by_cases hlt:b<j
   ·rw[if_pos hlt,if_pos (by omega)]
   ·rw[if_neg hlt,if_neg (by omega)]
 ·rw[aI (by omega),if_neg (hi j hj)]
  exact h.2 i hi
structure rO (c:Cf) (ks:List Int) (l:List Nat) (zs:List Int):Prop where
 ring:RingAt c zs l
 tags:∀b,b<c.N→nth zs (adr c b 0)=vB (nth ks b)+if b∈l then 64 else 0
 idle:∀b,b<c.N→b∉l→nth zs (adr c b 6)=0∧nth zs (adr c b 7)=0
theorem rO.kind{c:Cf}{ks:List Int}{l:List Nat}{zs:List Int}(h:rO c ks l zs){b:Nat}(hb:b<c.N):bf (nth zs (adr c b 0))↔rV (nth ks b)=true:=by
 rw[h.tags b hb,←Ku]
 unfold bf uK
 by_cases e:b∈l
 ·rw[if_pos e];omega
 ·rw[if_neg e];omega
theorem rO.add{c:Cf}{ks:List Int}{l:List Nat}{zs:List Int}{b:Nat}(h:rO c ks l zs)(hm:c.May)(hz:zs.length=c.size)(hb:b<c.N)(hn:b∉l)(hk:rV (nth ks b)=true):rO c ks (l++[b]) (aO c b zs):=by
 refine⟨h.ring.add hm hz hb hn ((h.kind hb).2 hk),fun x hx=> ?_,fun x hx hxl=> ?_⟩
 ·rw[nI hm hz hx]
  by_cases e:x=b
  ·subst e
   rw[if_pos rfl,h.tags x hx,if_neg hn,if_pos (by simp)];omega
  ·rw[if_neg e,h.tags x hx]
   simp[e]
 ·have hxl':x∉l∧x≠b:=by simpa using hxl
  have ho:∀u,u=6∨u=7→pJ c l b (adr c x u):=fun u hu=>by
   have hu16:u<16:=by omega
   refine⟨aX (by omega),aX (by omega),aX (by omega),fun e=> ?_,fun y hy=>⟨fun e=> ?_,fun e=> ?_⟩⟩
   ·have:=(eG hm hu16 (by omega)).1 e;omega
   ·have:=(eG hm hu16 (by omega)).1 e
    rcases hy with rfl|hy
    ·exact hxl'.2 this.1
    ·exact hxl'.1 (by rw[this.1];exact hy)
   ·have:=(eG hm hu16 (by omega)).1 e
    rcases hy with rfl|hy
    ·exact hxl'.2 this.1
    ·exact hxl'.1 (by rw[this.1];exact hy)
  rw[iN h.ring hz (ho 6 (Or.inl rfl)),iN h.ring hz (ho 7 (Or.inr rfl))]
  exact h.idle x hx hxl'.1
theorem rO.cut{c:Cf}{ks:List Int}{l1 l2:List Nat}{zs:List Int}{b:Nat}(h:rO c ks (l1++b::l2) zs)(hm:c.May)(hz:zs.length=c.size):rO c ks (l1++l2) (aJ c b zs):=by
 have hb:=h.ring.lt b (by simp)
 have hnd:=h.ring.nd
 have hbn:b∉l1++l2:=by
  rw[List.nodup_append] at hnd
  obtain⟨n1,n2,n3⟩:=hnd
  obtain⟨n4,n5⟩:=List.nodup_cons.1 n2
  intro hx
  rcases List.mem_append.1 hx with hx|hx
  ·exact n3 b hx b (by simp) rfl
  ·exact n4 hx
 refine⟨h.ring.cut hm hz,fun x hx=> ?_,fun x hx hxl=> ?_⟩
 ·rw[nJ hm hz hx]
  by_cases e:x=b
  ·subst e
   rw[if_pos rfl,h.tags x hx,if_pos (by simp),if_neg hbn];omega
  ·rw[if_neg e,h.tags x hx]
   simp[e]
 ·by_cases e:x=b
  ·subst e;exact BK hm hz hx
  ·have hxl':x∉l1++b::l2:=by simp at hxl ⊢;exact⟨hxl.1,e,hxl.2⟩
   have ho:∀u,u=6∨u=7→pJ c (l1++l2) b (adr c x u):=fun u hu=>by
    have hu16:u<16:=by omega
    refine⟨aX (by omega),aX (by omega),aX (by omega),fun e=> ?_,fun y hy=>⟨fun e2=> ?_,fun e2=> ?_⟩⟩
    ·have:=(eG hm hu16 (by omega)).1 e;omega
    ·have:=(eG hm hu16 (by omega)).1 e2
     rcases hy with rfl|hy
     ·exact e this.1
     ·exact hxl (by rw[this.1];exact hy)
    ·have:=(eG hm hu16 (by omega)).1 e2
     rcases hy with rfl|hy
     ·exact e this.1
     ·exact hxl (by rw[this.1];exact hy)
   rw[iP h.ring hz (ho 6 (Or.inl rfl)),iP h.ring hz (ho 7 (Or.inr rfl))]
   exact h.idle x hx hxl'
end Go.Proofs.YtbhhfnlkpieebaaGreat.Pk
