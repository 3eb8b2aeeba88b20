/-
  What the functions of package chain return, with the exact number of accesses of each.
-/
import Derived.Test.YtjmifnljckmimaaGreatChainsEtc
import Derived.Test.YtjmifnljckmimaaGreatGroFnEtc
import Derived.Test.YtjmifnljckmimaaGreatBaseEtc
namespace Go.Proofs.YtjmifnljckmimaaGreat.Pk
open Lib (hid)
open Go.RowKit
set_option linter.unusedVariables false
set_option linter.unusedSimpArgs false
def ko(l:List Nat):Nat:=if l=[] then 6 else 5
def takeD(l:List Nat):Nat:=if l=[] then 7 else 6
def Rx(k:Int):Nat:=if k=0∨k=1 then 1 else 0
section
variable {c:Cf} {zs:List Int} {k b:Nat}
theorem Dh(hm:c.May)(hz:zs.length=c.size)(hk:k<2)(hb:b<c.N)(h0:nth zs (3*k)=0):
  ((((zs.set (gz c b) 0).set (3*k) ((b:Int)+1)).set (3*k+1) ((b:Int)+1)).set (3*k+2) (nth zs (3*k+2)+1))=nT c k b zs:=by
 have hs:=hm.size
 have hl:=jX hm hb
 refine nI (by simp) (fun i hi=> ?_)
 unfold mQ
 rw[aX (by simp;omega),aX (by simp;omega),aX (by simp;omega),aX (by omega),h0,if_pos rfl]
 by_cases e2:i=3*k+2
 ·rw[if_pos e2,if_pos e2]
 rw[if_neg e2,if_neg e2]
 by_cases e1:i=3*k+1
 ·rw[if_pos e1,if_neg (by omega),if_pos e1]
 rw[if_neg e1]
 by_cases e0:i=3*k
 ·rw[if_pos e0,if_pos e0]
 rw[if_neg e0,if_neg e0,if_neg e1]
theorem Di(hm:c.May)(hz:zs.length=c.size)(hk:k<2)(hb:b<c.N)(h0:nth zs (3*k)≠0):
  (((zs.set (gz c b) (nth zs (3*k))).set (3*k) ((b:Int)+1)).set (3*k+2) (nth zs (3*k+2)+1))=nT c k b zs:=by
 have hs:=hm.size
 have hl:=jX hm hb
 have hr:¬3*k+1=gz c b:=mg (by omega)
 refine nI (by simp) (fun i hi=> ?_)
 unfold mQ
 rw[aX (by simp;omega),aX (by simp;omega),aX (by omega),if_neg h0]
 by_cases e2:i=3*k+2
 ·rw[if_pos e2,if_pos e2]
 rw[if_neg e2,if_neg e2]
 by_cases e0:i=3*k
 ·rw[if_pos e0,if_pos e0]
 rw[if_neg e0,if_neg e0]
 by_cases e1:i=3*k+1
 ·rw[if_pos e1,e1,if_neg hr]
 rw[if_neg e1]
theorem Ez(hm:c.May)(hz:zs.length=c.size)(hk:k<2)(hb:b<c.N)(h0:nth zs (3*k+1)=0):
  ((((zs.set (gz c b) 0).set (3*k) ((b:Int)+1)).set (3*k+1) ((b:Int)+1)).set (3*k+2) (nth zs (3*k+2)+1))=iT c k b zs:=by
 have hs:=hm.size
 have hl:=jX hm hb
 refine nI (by simp) (fun i hi=> ?_)
 unfold addN
 rw[aX (by simp;omega),aX (by simp;omega),aX (by simp;omega),aX (by omega),h0,if_pos rfl]
 by_cases e2:i=3*k+2
 ·rw[if_pos e2,if_pos e2]
 rw[if_neg e2,if_neg e2]
 by_cases e1:i=3*k+1
 ·rw[if_pos e1,if_neg (by omega),if_pos e1]
 rw[if_neg e1]
 by_cases e0:i=3*k
 ·rw[if_pos e0,if_pos e0]
 rw[if_neg e0,if_neg e0,if_neg e1]
 by_cases e:i=gz c b
 ·rw[if_pos e,if_pos e]
 rw[if_neg e,if_neg e,if_neg (by simp)]
theorem EC{x:Nat}(hm:c.May)(hz:zs.length=c.size)(hk:k<2)(hb:b<c.N)(hx:x<c.N)(hxb:x≠b)(h0:nth zs (3*k+1)=(x:Int)+1):
  ((((zs.set (gz c b) 0).set (gz c x) ((b:Int)+1)).set (3*k+1) ((b:Int)+1)).set (3*k+2) (nth zs (3*k+2)+1))=iT c k b zs:=by
 have hs:=hm.size
 have hl:=jX hm hb
 have hlx:=jX hm hx
 have hr:¬3*k=gz c b:=mg (by omega)
 have hr':¬3*k=gz c x:=mg (by omega)
 have hbx:¬gz c b=gz c x:=fun e=>hxb (qH hm e).symm
 refine nI (by simp) (fun i hi=> ?_)
 unfold addN
 rw[aX (by simp;omega),aX (by simp;omega),aX (by simp;omega),aX (by omega),h0,if_neg (show ¬((x:Int)+1=0) by omega),show((x:Int)+1-1).toNat=x by omega]
 by_cases e2:i=3*k+2
 ·rw[if_pos e2,if_pos e2]
 rw[if_neg e2,if_neg e2]
 by_cases e1:i=3*k+1
 ·rw[if_pos e1,if_neg (by omega),if_pos e1]
 rw[if_neg e1]
 by_cases e0:i=3*k
 ·rw[if_pos e0,e0,if_neg hr',if_neg hr]
 rw[if_neg e0,if_neg e1]
 by_cases e:i=gz c b
 ·rw[if_pos e,e,if_neg hbx,if_pos rfl]
 rw[if_neg e,if_neg e]
 by_cases e':i=gz c x
 ·rw[if_pos e',if_pos ⟨by omega,e'⟩]
 rw[if_neg e',if_neg (fun h=>e' h.2)]
theorem DN(hm:c.May)(hz:zs.length=c.size)(hk:k<2)(hb:b<c.N)(h0:nth zs (gz c b)=0):
  ((((zs.set (3*k) 0).set (3*k+1) 0).set (gz c b) 0).set (3*k+2) (nth zs (3*k+2)-1))=eO c k b zs:=by
 have hs:=hm.size
 have hl:=jX hm hb
 have hr1:¬3*k+1=gz c b:=mg (by omega)
 have hr0:¬3*k=gz c b:=mg (by omega)
 refine nI (by simp) (fun i hi=> ?_)
 unfold takeN
 rw[aX (by simp;omega),aX (by simp;omega),aX (by simp;omega),aX (by omega),h0,if_pos rfl]
 by_cases e2:i=3*k+2
 ·rw[if_pos e2,if_pos e2]
 rw[if_neg e2,if_neg e2]
 by_cases e:i=gz c b
 ·rw[if_pos e,if_neg (by omega),if_neg (by omega),if_pos e]
 rw[if_neg e,if_neg e]
 by_cases e1:i=3*k+1
 ·rw[if_pos e1,if_neg (by omega),if_pos e1]
 rw[if_neg e1,if_neg e1]
theorem DU(hm:c.May)(hz:zs.length=c.size)(hk:k<2)(hb:b<c.N)(h0:nth zs (gz c b)≠0):
  (((zs.set (3*k) (nth zs (gz c b))).set (gz c b) 0).set (3*k+2) (nth zs (3*k+2)-1))=eO c k b zs:=by
 have hs:=hm.size
 have hl:=jX hm hb
 have hr1:¬3*k+1=gz c b:=mg (by omega)
 have hr0:¬3*k=gz c b:=mg (by omega)
 refine nI (by simp) (fun i hi=> ?_)
 unfold takeN
 rw[aX (by simp;omega),aX (by simp;omega),aX (by omega),if_neg h0]
 by_cases e2:i=3*k+2
 ·rw[if_pos e2,if_pos e2]
 rw[if_neg e2,if_neg e2]
 by_cases e:i=gz c b
 ·rw[if_pos e,if_neg (by omega),if_neg (by omega),if_pos e]
 rw[if_neg e,if_neg e]
 by_cases e1:i=3*k+1
 ·rw[e1,if_neg (by omega),if_neg (by omega),if_pos rfl]
 rw[if_neg e1]
end
theorem BM(p:Pl)(c:Cf)(s:St)(q r:Nat)(x y:Int)(w:World)(hG:G w p c s)(hq:w.cell? ⟨q,0,none⟩=some (.pointer (some ⟨p.a,0,none⟩)))(hr:r<20)(hx:x=(r:Int))(hy:nth s.zs r=y):
  Calls Tryz.prog 229 #[.int .i64 x,.pointer (some ⟨q,0,none⟩)] w (GP w p c s.got (.tuple #[.int .i64 0,.int .i64 y])):=by
 have HG:=hid hG
 subst hx
 have e1:IntKind.i64.wrap ((r:Int)+0)=(r:Int):=by rw[Int.add_zero];exact IntWalk.i64_in _ (by omega)
 have HY:=hid hy
 clear hG hy
 go_enter Tryz.func229,Tryz.ntmps229
 go_wp2_with fail
 refine(gQ p c s r _ _ _ HG.out (by omega) (by first|rfl|exact e1) HY.out).mono ?_
 rintro e w1 ⟨rfl,hG1,hT1⟩
 have HG1:=hid hG1
 have HT1:=hid hT1
 clear hG1 hT1
 go_wp2_with fail
 go_ret2
 exact⟨rfl,HG1.out,HT1.out⟩
theorem Gr(p:Pl)(c:Cf)(s:St)(q r:Nat)(x y:Int)(w:World)(hG:G w p c s)(hq:w.cell? ⟨q,0,none⟩=some (.pointer (some ⟨p.a,0,none⟩)))(hr:r<20)(hx:x=(r:Int))(hy:nth s.zs (r+1)=y):
  Calls Tryz.prog 165 #[.int .i64 x,.pointer (some ⟨q,0,none⟩)] w (GP w p c s.got (.tuple #[.int .i64 y,.int .i64 0])):=by
 have HG:=hid hG
 subst hx
 have e1:IntKind.i64.wrap ((r:Int)+1)=((r+1:Nat):Int):=by rw[show(r:Int)+1=((r+1:Nat):Int) by omega];exact IntWalk.i64_in _ (by omega)
 have HY:=hid hy
 clear hG hy
 go_enter Tryz.func165,Tryz.ntmps165
 go_wp2_with fail
 refine(gQ p c s (r+1) _ _ _ HG.out (by omega) (by first|rfl|exact e1) HY.out).mono ?_
 rintro e w1 ⟨rfl,hG1,hT1⟩
 have HG1:=hid hG1
 have HT1:=hid hT1
 clear hG1 hT1
 go_wp2_with fail
 go_ret2
 exact⟨rfl,HG1.out,HT1.out⟩
theorem qc{k:Nat}(hk:k<2):IntKind.i64.wrap (((3*k:Nat):Int)+0)=((3*k:Nat):Int)∧IntKind.i64.wrap (((3*k:Nat):Int)+1)=((3*k+1:Nat):Int)∧IntKind.i64.wrap (((3*k:Nat):Int)+2)=((3*k+2:Nat):Int):=by
 refine⟨?_,?_,?_⟩
 ·rw[Int.add_zero];exact IntWalk.i64_in _ (by omega)
 ·rw[show((3*k:Nat):Int)+1=((3*k+1:Nat):Int) by omega];exact IntWalk.i64_in _ (by omega)
 ·rw[show((3*k:Nat):Int)+2=((3*k+2:Nat):Int) by omega];exact IntWalk.i64_in _ (by omega)
theorem kT.to{tg ts e:TypeId}{w:World}{p:Pl}{c:Cf}{s:St}{zs:List Int}{m:Nat}(h:kT tg ts e w p c s)(hz:s.zs=zs)(hm:s.m=m):kT tg ts e w p c ⟨zs,m⟩:=by subst hz hm;exact h
theorem sZ(p:Pl)(c:Cf)(s:St)(k:Int)(w:World)(hG:G w p c s)(h:JI c s.zs k):
  Calls Tryz.prog 92 #[.pointer (some ⟨p.a,0,none⟩),.int .i64 k] w (GP w p c ⟨s.zs,s.m+Rx k⟩ (.tuple #[.int .i64 0,.bool false])):=by
 have HG:=hid hG
 clear hG
 rcases h with h|⟨j,rfl,hj,hC⟩
 ·go_enter Tryz.func92,Tryz.ntmps92
  go_wp2_with fail
  refine(ED p k _ h).mono ?_
  rintro e w1 ⟨rfl,rfl⟩
  go_wp2_with fail
  go_ret2
  exact⟨rfl,HG.out.to rfl (by unfold Rx;rw[if_neg h];rfl),Touch.refl _ _⟩
 ·have H0:=hid (hC.r0.trans (show jU []=(0:Int) from rfl))
  have HR:=hid (lW p j w hj)
  have e1:IntKind.i64.wrap (((3*j:Nat):Int)+0)=((3*j:Nat):Int):=by rw[Int.add_zero];exact IntWalk.i64_in _ (by omega)
  clear hC
  go_enter Tryz.func92,Tryz.ntmps92
  go_wp2_with fail
  refine HR.out.mono ?_
  rintro e w1 ⟨rfl,rfl⟩
  go_wp2_with fail
  refine(gQ p c s (3*j) _ _ _ HG.out (by omega) (by first|rfl|exact e1) H0.out).mono ?_
  rintro e w1 ⟨rfl,hG1,hT1⟩
  have HG1:=hid hG1
  have HT1:=hid hT1
  clear hG1 hT1
  go_wp2_with fail
  refine(Im p c s.got _ HG1.out).mono ?_
  rintro e w2 ⟨rfl,hb2⟩
  have HG2:=hid (HG1.out.later hb2)
  have HT2:=hid (HT1.out.trans (Touch.of_below hb2))
  clear hb2
  go_wp2_with fail
  go_ret2
  exact⟨rfl,HG2.out.to rfl (by unfold Rx;rw[if_pos (by omega)];rfl),HT2.out⟩
theorem OZ(p:Pl)(c:Cf)(s:St)(k:Nat)(l:List Nat)(w:World)(hG:G w p c s)(hC:aR c s.zs k l)(hk:k<2):
  Calls Tryz.prog 86 #[.pointer (some ⟨p.a,0,none⟩),.int .i64 (k:Int)] w (GP w p c s.got (.int .i64 (l.length:Int))):=by
 have HG:=hid hG
 have H0:=hid hC.r2
 have HR:=hid (lW p k w hk)
 have e1:IntKind.i64.wrap (((3*k:Nat):Int)+2)=((3*k+2:Nat):Int):=by rw[show((3*k:Nat):Int)+2=((3*k+2:Nat):Int) by omega];exact IntWalk.i64_in _ (by omega)
 clear hG hC
 go_enter Tryz.func86,Tryz.ntmps86
 go_wp2_with fail
 refine HR.out.mono ?_
 rintro e w1 ⟨rfl,rfl⟩
 go_wp2_with fail
 refine(gQ p c s (3*k+2) _ _ _ HG.out (by omega) (by first|rfl|exact e1) H0.out).mono ?_
 rintro e w1 ⟨rfl,hG1,hT1⟩
 have HG1:=hid hG1
 have HT1:=hid hT1
 clear hG1 hT1
 go_wp2_with fail
 go_ret
 exact⟨rfl,HG1.out,HT1.out⟩
abbrev Sc(w:World)(q:Nat)(p:Pl):Prop:=Blk w q #[.pointer (some ⟨p.a,0,none⟩)] 26
set_option maxHeartbeats 1000000 in
theorem BQ(p:Pl)(c:Cf)(s:St)(k b q:Nat)(l:List Nat)(w:World)(hG:G w p c s)(hC:aR c s.zs k l)(hk:k<2)(hb:b<c.N)(HQ:Hid (Sc w q p))(hqo:¬inG p q):
  Calls Tryz.prog 164 #[.pointer (some ⟨p.a,0,none⟩),.int .i64 (k:Int),.int .i64 (b:Int),.func (.func 229) #[] #[.pointer (some ⟨q,0,none⟩)]] w (GP w p c ⟨nT c k b s.zs,s.m+ko l⟩ (.bool true)):=by
 have HG:=hid hG
 have hm:=hG.may
 have hz:=hG.len
 have hN:=hm.n
 have hW:=hm.w
 have hlk:=dX hC.nd hC.lt
 have r0:nth s.zs (3*k)=jU l:=hC.r0
 obtain⟨n,hnl⟩:∃n:Nat,n=l.length:=⟨_,rfl⟩
 have hnN:n≤c.N:=by rw[hnl];exact hlk
 have r2:nth s.zs (3*k+2)=(n:Int):=by rw[hnl];exact hC.r2
 have HR:=hid (lW p k w hk)
 obtain⟨e0,e1,e2⟩:=qc hk
 have ew1:IntKind.i64.wrap ((b:Int)+1)=(b:Int)+1:=IntWalk.i64_in _ (by omega)
 have ew3:IntKind.i64.wrap ((n:Int)+1)=(n:Int)+1:=IntWalk.i64_in _ (by omega)
 have HB:=hid (iX hb)
 have R0:=hid r0
 have H5:Hid (5<c.W):=hid (by omega)
 have HQo:=hid hqo
 cases l with
 |nil=>
  have ew2:IntKind.u32.wrap 0=0:=IntWalk.u32_in _ (by omega)
  have HE:=hid (Dh hm hz hk hb r0)
  rw[r2] at HE
  have R2:Hid (nth (((s.zs.set (gz c b) 0).set (3*k) ((b:Int)+1)).set (3*k+1) ((b:Int)+1)) (3*k+2)=(n:Int)):=hid (by
   rw[ai (by omega),ai (by omega),ai (bN (by omega))];exact r2)
  clear hG hC hz r0 r2 hm hqo hnl
  go_enter Tryz.func164,Tryz.ntmps164
  have HT0:Hid (Touch (inG p) w w):=hid (Touch.refl _ _)
  go_wp2_with fail
  refine(HR.out).mono ?_
  rintro e wm0 ⟨rfl,rfl⟩
  go_wp2_with fail
  refine(rM p c s _ _ HG.out).mono ?_
  rw[HB.out]
  rintro e wm1 ⟨rfl,hb⟩
  have HG1:=hid (HG.out.later hb)
  have HT1:Hid (Touch (inG p) _ wm1):=hid (HT0.out.trans (Touch.of_below hb))
  have HQ1:=hid (HQ.out.later hb)
  clear hb
  go_wp2_with fail
  refine(BM p c s q (3*k) _ 0 _ HG1.out (HQ1.out.cell 0 rfl) (by omega) rfl R0.out).mono ?_
  rintro e wm2 ⟨rfl,hG,hT⟩
  have HG2:=hid hG
  have HT2:Hid (Touch (inG p) _ wm2):=hid (HT1.out.trans hT)
  have HQ2:=hid (HQ1.out.touch hT HQo.out)
  clear hG hT
  go_wp2_with fail
  refine(aK p c s.got b 5 _ _ 0 _ HG2.out hb H5.out rfl rfl (by omega) (by omega)).mono ?_
  rintro e wm3 ⟨rfl,hG,hT⟩
  have HG3:=hid hG
  have HT3:Hid (Touch (inG p) _ wm3):=hid (HT2.out.trans hT)
  have HQ3:=hid (HQ2.out.touch hT HQo.out)
  clear hG hT
  go_wp2_with fail
  refine(aO p c _ (3*k) _ _ _ HG3.out (by omega) (by first|rfl|exact e0) (by omega) (by omega)).mono ?_
  rintro e wm4 ⟨rfl,hG,hT⟩
  have HG4:=hid hG
  have HT4:Hid (Touch (inG p) _ wm4):=hid (HT3.out.trans hT)
  have HQ4:=hid (HQ3.out.touch hT HQo.out)
  clear hG hT
  go_wp2_with fail
  refine(aO p c _ (3*k+1) _ _ _ HG4.out (by omega) (by first|rfl|exact e1) (by omega) (by omega)).mono ?_
  rintro e wm5 ⟨rfl,hG,hT⟩
  have HG5:=hid hG
  have HT5:Hid (Touch (inG p) _ wm5):=hid (HT4.out.trans hT)
  have HQ5:=hid (HQ4.out.touch hT HQo.out)
  clear hG hT
  go_wp2_with fail
  refine(gQ p c _ (3*k+2) _ _ _ HG5.out (by omega) (by first|rfl|exact e2) R2.out).mono ?_
  rintro e wm6 ⟨rfl,hG,hT⟩
  have HG6:=hid hG
  have HT6:Hid (Touch (inG p) _ wm6):=hid (HT5.out.trans hT)
  have HQ6:=hid (HQ5.out.touch hT HQo.out)
  clear hG hT
  go_wp2_with fail
  refine(aO p c _ (3*k+2) _ _ _ HG6.out (by omega) (by first|rfl|exact e2) (by omega) (by omega)).mono ?_
  rintro e wm7 ⟨rfl,hG,hT⟩
  have HG7:=hid hG
  have HT7:Hid (Touch (inG p) _ wm7):=hid (HT6.out.trans hT)
  have HQ7:=hid (HQ6.out.touch hT HQo.out)
  clear hG hT
  go_wp2_with fail
  go_ret
  exact⟨rfl,HG7.out.to HE.out rfl,HT7.out⟩
 |cons a t=>
  have ha:=hC.lt a (by simp)
  have r0':nth s.zs (3*k)=(a:Int)+1:=r0
  have hbn:((a:Int)+1==0)=false:=lV (by omega)
  have ew2:IntKind.u32.wrap ((a:Int)+1)=(a:Int)+1:=IntWalk.u32_in _ (by omega)
  have HE:=hid (Di hm hz hk hb (by rw[r0'];omega))
  rw[r2,r0'] at HE
  have R2:Hid (nth ((s.zs.set (gz c b) ((a:Int)+1)).set (3*k) ((b:Int)+1)) (3*k+2)=(n:Int)):=hid (by
   rw[ai (by omega),ai (bN (by omega))];exact r2)
  clear hG hC hz r0 r0' r2 hm hqo hnl
  go_enter Tryz.func164,Tryz.ntmps164
  have HT0:Hid (Touch (inG p) w w):=hid (Touch.refl _ _)
  go_wp2_with fail
  refine(HR.out).mono ?_
  rintro e wm0 ⟨rfl,rfl⟩
  go_wp2_with fail
  refine(rM p c s _ _ HG.out).mono ?_
  rw[HB.out]
  rintro e wm1 ⟨rfl,hb⟩
  have HG1:=hid (HG.out.later hb)
  have HT1:Hid (Touch (inG p) _ wm1):=hid (HT0.out.trans (Touch.of_below hb))
  have HQ1:=hid (HQ.out.later hb)
  clear hb
  go_wp2_with fail
  refine(BM p c s q (3*k) _ ((a:Int)+1) _ HG1.out (HQ1.out.cell 0 rfl) (by omega) rfl R0.out).mono ?_
  rintro e wm2 ⟨rfl,hG,hT⟩
  have HG2:=hid hG
  have HT2:Hid (Touch (inG p) _ wm2):=hid (HT1.out.trans hT)
  have HQ2:=hid (HQ1.out.touch hT HQo.out)
  clear hG hT
  go_wp2_with fail
  refine(aK p c s.got b 5 _ _ ((a:Int)+1) _ HG2.out hb H5.out rfl rfl (by omega) (by omega)).mono ?_
  rintro e wm3 ⟨rfl,hG,hT⟩
  have HG3:=hid hG
  have HT3:Hid (Touch (inG p) _ wm3):=hid (HT2.out.trans hT)
  have HQ3:=hid (HQ2.out.touch hT HQo.out)
  clear hG hT
  go_wp2_with fail
  refine(aO p c _ (3*k) _ _ _ HG3.out (by omega) (by first|rfl|exact e0) (by omega) (by omega)).mono ?_
  rintro e wm4 ⟨rfl,hG,hT⟩
  have HG4:=hid hG
  have HT4:Hid (Touch (inG p) _ wm4):=hid (HT3.out.trans hT)
  have HQ4:=hid (HQ3.out.touch hT HQo.out)
  clear hG hT
  go_wp2_with fail
  refine(gQ p c _ (3*k+2) _ _ _ HG4.out (by omega) (by first|rfl|exact e2) R2.out).mono ?_
  rintro e wm5 ⟨rfl,hG,hT⟩
  have HG5:=hid hG
  have HT5:Hid (Touch (inG p) _ wm5):=hid (HT4.out.trans hT)
  have HQ5:=hid (HQ4.out.touch hT HQo.out)
  clear hG hT
  go_wp2_with fail
  refine(aO p c _ (3*k+2) _ _ _ HG5.out (by omega) (by first|rfl|exact e2) (by omega) (by omega)).mono ?_
  rintro e wm6 ⟨rfl,hG,hT⟩
  have HG6:=hid hG
  have HT6:Hid (Touch (inG p) _ wm6):=hid (HT5.out.trans hT)
  have HQ6:=hid (HQ5.out.touch hT HQo.out)
  clear hG hT
  go_wp2_with fail
  go_ret
  exact⟨rfl,HG6.out.to HE.out rfl,HT6.out⟩
set_option maxHeartbeats 1000000 in
theorem EF(p:Pl)(c:Cf)(s:St)(k b q:Nat)(l:List Nat)(w:World)(hG:G w p c s)(hC:aR c s.zs k l)(hk:k<2)(hb:b<c.N)(hn:b∉l)(HQ:Hid (Sc w q p))(hqo:¬inG p q):
  Calls Tryz.prog 164 #[.pointer (some ⟨p.a,0,none⟩),.int .i64 (k:Int),.int .i64 (b:Int),.func (.func 165) #[] #[.pointer (some ⟨q,0,none⟩)]] w (GP w p c ⟨iT c k b s.zs,s.m+6⟩ (.bool true)):=by
 have HG:=hid hG
 have hm:=hG.may
 have hz:=hG.len
 have hN:=hm.n
 have hW:=hm.w
 have hlk:=dX hC.nd hC.lt
 have r1:nth s.zs (3*k+1)=jY l:=hC.r1
 obtain⟨n,hnl⟩:∃n:Nat,n=l.length:=⟨_,rfl⟩
 have hnN:n≤c.N:=by rw[hnl];exact hlk
 have r2:nth s.zs (3*k+2)=(n:Int):=by rw[hnl];exact hC.r2
 have HR:=hid (lW p k w hk)
 obtain⟨e0,e1,e2⟩:=qc hk
 have ew1:IntKind.i64.wrap ((b:Int)+1)=(b:Int)+1:=IntWalk.i64_in _ (by omega)
 have ew3:IntKind.i64.wrap ((n:Int)+1)=(n:Int)+1:=IntWalk.i64_in _ (by omega)
 have ew2:IntKind.u32.wrap 0=0:=IntWalk.u32_in _ (by omega)
 have HB:=hid (iX hb)
 have H5:Hid (5<c.W):=hid (by omega)
 have HQo:=hid hqo
 by_cases hl:l=[]
 ·subst hl
  have r1':nth s.zs (3*k+1)=0:=r1
  have R1:=hid r1'
  have HE:=hid (Ez hm hz hk hb r1')
  rw[r2] at HE
  have R2:Hid (nth (((s.zs.set (gz c b) 0).set (3*k) ((b:Int)+1)).set (3*k+1) ((b:Int)+1)) (3*k+2)=(n:Int)):=hid (by
   rw[ai (by omega),ai (by omega),ai (bN (by omega))];exact r2)
  clear hG hC hz r1 r1' r2 hm hqo hnl
  go_enter Tryz.func164,Tryz.ntmps164
  have HT0:Hid (Touch (inG p) w w):=hid (Touch.refl _ _)
  go_wp2_with fail
  refine(HR.out).mono ?_
  rintro e wm0 ⟨rfl,rfl⟩
  go_wp2_with fail
  refine(rM p c s _ _ HG.out).mono ?_
  rw[HB.out]
  rintro e wm1 ⟨rfl,hb⟩
  have HG1:=hid (HG.out.later hb)
  have HT1:Hid (Touch (inG p) _ wm1):=hid (HT0.out.trans (Touch.of_below hb))
  have HQ1:=hid (HQ.out.later hb)
  clear hb
  go_wp2_with fail
  refine(Gr p c s q (3*k) _ 0 _ HG1.out (HQ1.out.cell 0 rfl) (by omega) rfl R1.out).mono ?_
  rintro e wm2 ⟨rfl,hG,hT⟩
  have HG2:=hid hG
  have HT2:Hid (Touch (inG p) _ wm2):=hid (HT1.out.trans hT)
  have HQ2:=hid (HQ1.out.touch hT HQo.out)
  clear hG hT
  go_wp2_with fail
  refine(aK p c s.got b 5 _ _ 0 _ HG2.out hb H5.out rfl rfl (by omega) (by omega)).mono ?_
  rintro e wm3 ⟨rfl,hG,hT⟩
  have HG3:=hid hG
  have HT3:Hid (Touch (inG p) _ wm3):=hid (HT2.out.trans hT)
  have HQ3:=hid (HQ2.out.touch hT HQo.out)
  clear hG hT
  go_wp2_with fail
  refine(aO p c _ (3*k) _ _ _ HG3.out (by omega) (by first|rfl|exact e0) (by omega) (by omega)).mono ?_
  rintro e wm4 ⟨rfl,hG,hT⟩
  have HG4:=hid hG
  have HT4:Hid (Touch (inG p) _ wm4):=hid (HT3.out.trans hT)
  have HQ4:=hid (HQ3.out.touch hT HQo.out)
  clear hG hT
  go_wp2_with fail
  refine(aO p c _ (3*k+1) _ _ _ HG4.out (by omega) (by first|rfl|exact e1) (by omega) (by omega)).mono ?_
  rintro e wm5 ⟨rfl,hG,hT⟩
  have HG5:=hid hG
  have HT5:Hid (Touch (inG p) _ wm5):=hid (HT4.out.trans hT)
  have HQ5:=hid (HQ4.out.touch hT HQo.out)
  clear hG hT
  go_wp2_with fail
  refine(gQ p c _ (3*k+2) _ _ _ HG5.out (by omega) (by first|rfl|exact e2) R2.out).mono ?_
  rintro e wm6 ⟨rfl,hG,hT⟩
  have HG6:=hid hG
  have HT6:Hid (Touch (inG p) _ wm6):=hid (HT5.out.trans hT)
  have HQ6:=hid (HQ5.out.touch hT HQo.out)
  clear hG hT
  go_wp2_with fail
  refine(aO p c _ (3*k+2) _ _ _ HG6.out (by omega) (by first|rfl|exact e2) (by omega) (by omega)).mono ?_
  rintro e wm7 ⟨rfl,hG,hT⟩
  have HG7:=hid hG
  have HT7:Hid (Touch (inG p) _ wm7):=hid (HT6.out.trans hT)
  have HQ7:=hid (HQ6.out.touch hT HQo.out)
  clear hG hT
  go_wp2_with fail
  go_ret
  exact⟨rfl,HG7.out.to HE.out rfl,HT7.out⟩
 ·obtain⟨a,hal,hae⟩:=gN l hl
  have ha:=hC.lt a hal
  have r1':nth s.zs (3*k+1)=(a:Int)+1:=r1.trans hae
  have R1:=hid r1'
  have hbn:((a:Int)+1==0)=false:=lV (by omega)
  have ew4:IntKind.u32.wrap ((b:Int)+1)=(b:Int)+1:=IntWalk.u32_in _ (by omega)
  have ew5:IntKind.i64.wrap ((a:Int)+1-1)=(a:Int):=by rw[Int.add_sub_cancel];exact IntWalk.i64_in _ (by omega)
  have HE:=hid (EC hm hz hk hb ha (fun e=>hn (by rw[←e];exact hal)) r1')
  rw[r2] at HE
  have R2:Hid (nth (((s.zs.set (gz c b) 0).set (gz c a) ((b:Int)+1)).set (3*k+1) ((b:Int)+1)) (3*k+2)=(n:Int)):=hid (by
   rw[ai (by omega),ai (bN (by omega)),ai (bN (by omega))];exact r2)
  clear hG hC hz r1 r1' r2 hm hqo hnl hae hal hl hn
  go_enter Tryz.func164,Tryz.ntmps164
  have HT0:Hid (Touch (inG p) w w):=hid (Touch.refl _ _)
  go_wp2_with fail
  refine(HR.out).mono ?_
  rintro e wm0 ⟨rfl,rfl⟩
  go_wp2_with fail
  refine(rM p c s _ _ HG.out).mono ?_
  rw[HB.out]
  rintro e wm1 ⟨rfl,hb⟩
  have HG1:=hid (HG.out.later hb)
  have HT1:Hid (Touch (inG p) _ wm1):=hid (HT0.out.trans (Touch.of_below hb))
  have HQ1:=hid (HQ.out.later hb)
  clear hb
  go_wp2_with fail
  refine(Gr p c s q (3*k) _ ((a:Int)+1) _ HG1.out (HQ1.out.cell 0 rfl) (by omega) rfl R1.out).mono ?_
  rintro e wm2 ⟨rfl,hG,hT⟩
  have HG2:=hid hG
  have HT2:Hid (Touch (inG p) _ wm2):=hid (HT1.out.trans hT)
  have HQ2:=hid (HQ1.out.touch hT HQo.out)
  clear hG hT
  go_wp2_with fail
  refine(aK p c s.got b 5 _ _ 0 _ HG2.out hb H5.out rfl rfl (by omega) (by omega)).mono ?_
  rintro e wm3 ⟨rfl,hG,hT⟩
  have HG3:=hid hG
  have HT3:Hid (Touch (inG p) _ wm3):=hid (HT2.out.trans hT)
  have HQ3:=hid (HQ2.out.touch hT HQo.out)
  clear hG hT
  go_wp2_with fail
  refine(aK p c _ a 5 _ _ ((b:Int)+1) _ HG3.out ha H5.out (by first|rfl|exact ew5) rfl (by omega) (by omega)).mono ?_
  rintro e wm4 ⟨rfl,hG,hT⟩
  have HG4:=hid hG
  have HT4:Hid (Touch (inG p) _ wm4):=hid (HT3.out.trans hT)
  have HQ4:=hid (HQ3.out.touch hT HQo.out)
  clear hG hT
  go_wp2_with fail
  refine(aO p c _ (3*k+1) _ _ _ HG4.out (by omega) (by first|rfl|exact e1) (by omega) (by omega)).mono ?_
  rintro e wm5 ⟨rfl,hG,hT⟩
  have HG5:=hid hG
  have HT5:Hid (Touch (inG p) _ wm5):=hid (HT4.out.trans hT)
  have HQ5:=hid (HQ4.out.touch hT HQo.out)
  clear hG hT
  go_wp2_with fail
  refine(gQ p c _ (3*k+2) _ _ _ HG5.out (by omega) (by first|rfl|exact e2) R2.out).mono ?_
  rintro e wm6 ⟨rfl,hG,hT⟩
  have HG6:=hid hG
  have HT6:Hid (Touch (inG p) _ wm6):=hid (HT5.out.trans hT)
  have HQ6:=hid (HQ5.out.touch hT HQo.out)
  clear hG hT
  go_wp2_with fail
  refine(aO p c _ (3*k+2) _ _ _ HG6.out (by omega) (by first|rfl|exact e2) (by omega) (by omega)).mono ?_
  rintro e wm7 ⟨rfl,hG,hT⟩
  have HG7:=hid hG
  have HT7:Hid (Touch (inG p) _ wm7):=hid (HT6.out.trans hT)
  have HQ7:=hid (HQ6.out.touch hT HQo.out)
  clear hG hT
  go_wp2_with fail
  go_ret
  exact⟨rfl,HG7.out.to HE.out rfl,HT7.out⟩
theorem uH{w:World}{p:Pl}{c:Cf}{s:St}(h:G w p c s):¬inG p w.heap.size:=by
 rintro(hx|hx)
 ·have:=h.st.head.lt;omega
 ·have:=h.st.body.lt;omega
theorem GP.Gu{w w':World}{p:Pl}{c:Cf}{s:St}{v:Value}{o:Obj}{e:Ending}(h:GP (w.alloc o) p c s v e w'):GP w p c s v e w':=
 ⟨h.1,h.2.1,(Touch.of_below (below_new w o)).trans h.2.2⟩
theorem EE(p:Pl)(c:Cf)(s:St)(k b:Nat)(l:List Nat)(w:World)(hG:G w p c s)(hC:aR c s.zs k l)(hk:k<2)(hb:b<c.N)(hn:b∉l):
  Calls Tryz.prog 218 #[.pointer (some ⟨p.a,0,none⟩),.int .i64 (k:Int),.int .i64 (b:Int)] w (GP w p c ⟨nT c k b s.zs,s.m+ko l⟩ (.bool true)):=by
 have hmf:∀(fn:Fn) (first cap:Array Value) (w:World),(Instr.makeFunc fn first cap).run Tryz.prog w=.ok (.func fn first cap) w:=fun _ _ _ _=>rfl
 have H:=hid (BQ p c s k b w.heap.size l (w.alloc (.cells #[.pointer (some ⟨p.a,0,none⟩)] 26)) (hG.alloc _) hC hk hb (hid (Blk.new w #[.pointer (some ⟨p.a,0,none⟩)] 26)) (uH hG))
 clear hG hC hn
 go_enter Tryz.func218,Tryz.ntmps218
 go_wp2_with fail
 refine H.out.mono ?_
 rintro e w1 h
 obtain⟨rfl,h2,h5⟩:=h.Gu
 have H2:=hid h2
 have H5:=hid h5
 clear h h2 h5
 go_wp2_with fail
 go_ret
 exact⟨rfl,H2.out,H5.out⟩
theorem yC(p:Pl)(c:Cf)(s:St)(k b:Nat)(l:List Nat)(w:World)(hG:G w p c s)(hC:aR c s.zs k l)(hk:k<2)(hb:b<c.N)(hn:b∉l):
  Calls Tryz.prog 93 #[.pointer (some ⟨p.a,0,none⟩),.int .i64 (k:Int),.int .i64 (b:Int)] w (GP w p c ⟨iT c k b s.zs,s.m+6⟩ (.bool true)):=by
 have hmf:∀(fn:Fn) (first cap:Array Value) (w:World),(Instr.makeFunc fn first cap).run Tryz.prog w=.ok (.func fn first cap) w:=fun _ _ _ _=>rfl
 have H:=hid (EF p c s k b w.heap.size l (w.alloc (.cells #[.pointer (some ⟨p.a,0,none⟩)] 26)) (hG.alloc _) hC hk hb hn (hid (Blk.new w #[.pointer (some ⟨p.a,0,none⟩)] 26)) (uH hG))
 clear hG hC hn
 go_enter Tryz.func93,Tryz.ntmps93
 go_wp2_with fail
 refine H.out.mono ?_
 rintro e w1 h
 obtain⟨rfl,h2,h5⟩:=h.Gu
 have H2:=hid h2
 have H5:=hid h5
 clear h h2 h5
 go_wp2_with fail
 go_ret
 exact⟨rfl,H2.out,H5.out⟩
set_option maxHeartbeats 1000000 in
theorem ve(p:Pl)(c:Cf)(s:St)(k b:Nat)(l:List Nat)(w:World)(hG:G w p c s)(hC:aR c s.zs k (b::l))(hk:k<2):
  Calls Tryz.prog 147 #[.pointer (some ⟨p.a,0,none⟩),.int .i64 (k:Int)] w (GP w p c ⟨eO c k b s.zs,s.m+takeD l⟩ (.tuple #[.int .i64 (b:Int),.bool true])):=by
 have HG:=hid hG
 have hm:=hG.may
 have hz:=hG.len
 have hN:=hm.n
 have hW:=hm.w
 have hb:=hC.lt b (by simp)
 have hlk:=dX hC.nd hC.lt
 have rl:nth s.zs (gz c b)=jU l:=hC.ln.1
 have HL:=hid rl
 obtain⟨n,hnl⟩:∃n:Nat,n=l.length:=⟨_,rfl⟩
 have r2:nth s.zs (3*k+2)=(n:Int)+1:=by rw[hnl];rw[hC.r2];simp
 have hnN:n+1≤c.N:=by rw[hnl];simpa using hlk
 have HR:=hid (lW p k w hk)
 have HR':=hid (fun w'=>lW p k w' hk)
 have HF:=hid (BL p c s k b l w hG hC hk)
 obtain⟨e0,e1,e2⟩:=qc hk
 have ew3:IntKind.i64.wrap ((n:Int)+1-1)=(n:Int):=by rw[Int.add_sub_cancel];exact IntWalk.i64_in _ (by omega)
 have H5:Hid (5<c.W):=hid (by omega)
 cases l with
 |nil=>
  have rl0:nth s.zs (gz c b)=0:=rl
  have HL0:=hid rl0
  have ew2:IntKind.i64.wrap 0=0:=IntWalk.i64_in _ (by omega)
  have HE:=hid (DN hm hz hk hb rl0)
  rw[r2,Int.add_sub_cancel] at HE
  have R2:Hid (nth (((s.zs.set (3*k) 0).set (3*k+1) 0).set (gz c b) 0) (3*k+2)=(n:Int)+1):=hid (by
   rw[ai (bN (by omega)),ai (by omega),ai (by omega)];exact r2)
  clear hG hC hz r2 hm rl rl0 HL hlk hnl
  go_enter Tryz.func147,Tryz.ntmps147
  have HT0:Hid (Touch (inG p) w w):=hid (Touch.refl _ _)
  go_wp2_with fail
  refine(HF.out).mono ?_
  rintro e wm1 ⟨rfl,hG,hT⟩
  have HG1:=hid hG
  have HT1:Hid (Touch (inG p) _ wm1):=hid (HT0.out.trans hT)
  clear hG hT
  go_wp2_with fail
  refine(HR'.out _).mono ?_
  rintro e wm0 ⟨rfl,rfl⟩
  go_wp2_with fail
  refine(fq p c s.got b 5 _ _ _ _ HG1.out hb H5.out rfl rfl HL0.out).mono ?_
  rintro e wm2 ⟨rfl,hG,hT⟩
  have HG2:=hid hG
  have HT2:Hid (Touch (inG p) _ wm2):=hid (HT1.out.trans hT)
  clear hG hT
  go_wp2_with fail
  refine(aO p c _ (3*k) _ _ _ HG2.out (by omega) (by first|rfl|exact e0) (by omega) (by omega)).mono ?_
  rintro e wm3 ⟨rfl,hG,hT⟩
  have HG3:=hid hG
  have HT3:Hid (Touch (inG p) _ wm3):=hid (HT2.out.trans hT)
  clear hG hT
  go_wp2_with fail
  refine(aO p c _ (3*k+1) _ _ _ HG3.out (by omega) (by first|rfl|exact e1) (by omega) (by omega)).mono ?_
  rintro e wm4 ⟨rfl,hG,hT⟩
  have HG4:=hid hG
  have HT4:Hid (Touch (inG p) _ wm4):=hid (HT3.out.trans hT)
  clear hG hT
  go_wp2_with fail
  refine(aK p c _ b 5 _ _ 0 _ HG4.out hb H5.out rfl rfl (by omega) (by omega)).mono ?_
  rintro e wm5 ⟨rfl,hG,hT⟩
  have HG5:=hid hG
  have HT5:Hid (Touch (inG p) _ wm5):=hid (HT4.out.trans hT)
  clear hG hT
  go_wp2_with fail
  refine(gQ p c _ (3*k+2) _ _ _ HG5.out (by omega) (by first|rfl|exact e2) R2.out).mono ?_
  rintro e wm6 ⟨rfl,hG,hT⟩
  have HG6:=hid hG
  have HT6:Hid (Touch (inG p) _ wm6):=hid (HT5.out.trans hT)
  clear hG hT
  go_wp2_with fail
  refine(aO p c _ (3*k+2) _ _ _ HG6.out (by omega) (by first|rfl|exact e2) (by omega) (by omega)).mono ?_
  rintro e wm7 ⟨rfl,hG,hT⟩
  have HG7:=hid hG
  have HT7:Hid (Touch (inG p) _ wm7):=hid (HT6.out.trans hT)
  clear hG hT
  go_wp2_with fail
  go_ret2
  exact⟨rfl,HG7.out.to HE.out rfl,HT7.out⟩
 |cons a t=>
  have ha:=hC.lt a (by simp)
  have rl1:nth s.zs (gz c b)=(a:Int)+1:=rl
  have HL1:=hid rl1
  have hbn:((a:Int)+1==0)=false:=lV (by omega)
  have ew2:IntKind.i64.wrap ((a:Int)+1)=(a:Int)+1:=IntWalk.i64_in _ (by omega)
  have HE:=hid (DU hm hz hk hb (by rw[rl1];omega))
  rw[r2,rl1,Int.add_sub_cancel] at HE
  have R2:Hid (nth ((s.zs.set (3*k) ((a:Int)+1)).set (gz c b) 0) (3*k+2)=(n:Int)+1):=hid (by
   rw[ai (bN (by omega)),ai (by omega)];exact r2)
  clear hG hC hz r2 hm rl rl1 HL hlk hnl
  go_enter Tryz.func147,Tryz.ntmps147
  have HT0:Hid (Touch (inG p) w w):=hid (Touch.refl _ _)
  go_wp2_with fail
  refine(HF.out).mono ?_
  rintro e wm1 ⟨rfl,hG,hT⟩
  have HG1:=hid hG
  have HT1:Hid (Touch (inG p) _ wm1):=hid (HT0.out.trans hT)
  clear hG hT
  go_wp2_with fail
  refine(HR'.out _).mono ?_
  rintro e wm0 ⟨rfl,rfl⟩
  go_wp2_with fail
  refine(fq p c s.got b 5 _ _ _ _ HG1.out hb H5.out rfl rfl HL1.out).mono ?_
  rintro e wm2 ⟨rfl,hG,hT⟩
  have HG2:=hid hG
  have HT2:Hid (Touch (inG p) _ wm2):=hid (HT1.out.trans hT)
  clear hG hT
  go_wp2_with fail
  refine(aO p c _ (3*k) _ _ _ HG2.out (by omega) (by first|rfl|exact e0) (by omega) (by omega)).mono ?_
  rintro e wm3 ⟨rfl,hG,hT⟩
  have HG3:=hid hG
  have HT3:Hid (Touch (inG p) _ wm3):=hid (HT2.out.trans hT)
  clear hG hT
  go_wp2_with fail
  refine(aK p c _ b 5 _ _ 0 _ HG3.out hb H5.out rfl rfl (by omega) (by omega)).mono ?_
  rintro e wm4 ⟨rfl,hG,hT⟩
  have HG4:=hid hG
  have HT4:Hid (Touch (inG p) _ wm4):=hid (HT3.out.trans hT)
  clear hG hT
  go_wp2_with fail
  refine(gQ p c _ (3*k+2) _ _ _ HG4.out (by omega) (by first|rfl|exact e2) R2.out).mono ?_
  rintro e wm5 ⟨rfl,hG,hT⟩
  have HG5:=hid hG
  have HT5:Hid (Touch (inG p) _ wm5):=hid (HT4.out.trans hT)
  clear hG hT
  go_wp2_with fail
  refine(aO p c _ (3*k+2) _ _ _ HG5.out (by omega) (by first|rfl|exact e2) (by omega) (by omega)).mono ?_
  rintro e wm6 ⟨rfl,hG,hT⟩
  have HG6:=hid hG
  have HT6:Hid (Touch (inG p) _ wm6):=hid (HT5.out.trans hT)
  clear hG hT
  go_wp2_with fail
  go_ret2
  exact⟨rfl,HG6.out.to HE.out rfl,HT6.out⟩
theorem xk.size{w wr:World}{v:Value}{k:Nat}{zs:List Int}(h:xk w v k zs wr):w.heap.size≤wr.heap.size:=h.2.size
end Go.Proofs.YtjmifnljckmimaaGreat.Pk
