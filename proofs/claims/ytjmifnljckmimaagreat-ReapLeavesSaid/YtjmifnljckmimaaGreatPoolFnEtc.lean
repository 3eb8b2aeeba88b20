/-
  What the functions of package pool return; the bundles.
-/
import Derived.Test.YtjmifnljckmimaaGreatChAEtc
import Derived.Test.YtjmifnljckmimaaGreatTagIEtc
import Derived.Test.YtjmifnljckmimaaGreatTagFnEtc
import Derived.Test.YtjmifnljckmimaaGreatPoolDoEtc
import Derived.Test.YtjmifnljckmimaaGreatGroFnEtc
namespace Go.Proofs.YtjmifnljckmimaaGreat.Pk
open Lib (hid)
open Go.RowKit
set_option linter.unusedVariables false
set_option linter.unusedSimpArgs false
theorem yZ(k c n s d g o:Int)(w:World):(Instr.field 144 (.agg #[.int .i64 k,.int .i64 c,.int .i64 n,.int .i64 s,.int .i64 d,.int .i64 g,.int .i64 o]) 0).run Tryz.prog w=.ok (.int .i64 k) w:=by kernel_rfl
def kJ(c:Cf):Nat→List Int
 |0=>List.replicate c.size 0
 |k+1=>iT c 0 k (kJ c k)
theorem qO(c:Cf)(k:Nat):(kJ c k).length=c.size:=by
 induction k with
 |zero=>simp[kJ]
 |succ k ih=>show(iT c 0 k (kJ c k)).length=_;rw[jh,ih]
theorem jk{c:Cf}(hm:c.May):∀k,k≤c.N→aR c (kJ c k) 0 (List.range k)
 |0,_=>⟨qL _ _,qL _ _,qL _ _,by simp,by simp,trivial⟩
 |k+1,h=>by
  rw[List.range_succ]
  exact(jk hm k (by omega)).add hm (qO c k) (by omega) (by omega) (by simp)
theorem sD{c:Cf}(hm:c.May):∀k,k≤c.N→∀i,¬i<3→(∀b,b<c.N→i≠adr c b 5)→nth (kJ c k) i=0
 |0,_,i,_,_=>qL _ _
 |k+1,h,i,h3,h5=>by
  have ih:=sD hm k (by omega) i h3 h5
  have hl:=qO c k
  show nth (iT c 0 k (kJ c k)) i=0
  by_cases hi:i<c.size
  ·rw[show nth (iT c 0 k (kJ c k)) i=addN c 0 k (kJ c k) i from dK _ (by omega)]
   unfold addN
   rw[if_neg (by omega),if_neg (by omega),if_neg (by omega),if_neg (show ¬i=gz c k from h5 k (by omega)),if_neg,ih]
   rintro⟨h1,h2⟩
   have hr:=(jk hm k (by omega)).r1
   rw[hr] at h1 h2
   obtain⟨b,hb,he⟩:=gN (List.range k) (fun e=>h1 (by rw[e];rfl))
   rw[he,show((b:Int)+1-1).toNat=b by omega] at h2
   exact h5 b (by have:=List.mem_range.1 hb;omega) h2
  ·exact cO (by rw[jh];omega)
theorem Am{c:Cf}(hm:c.May):nE c (kJ c c.N):=by
 have hw:=hm.w
 refine⟨⟨jk hm c.N (Nat.le_refl _),fun b hb=> ?_⟩,sD hm c.N (Nat.le_refl _)⟩
 refine sD hm c.N (Nat.le_refl _) _ (by unfold adr;omega) (fun x hx e=> ?_)
 have:=(ax (by omega) (by omega) e).2
 omega
set_option maxHeartbeats 1000000 in
theorem CZ(p:Pl)(c:Cf)(m:Nat)(w:World)(hG:G w p c ⟨List.replicate c.size 0,m⟩):
  Calls Tryz.prog 35 #[.pointer (some ⟨p.a,0,none⟩)] w (GP w p c ⟨kJ c c.N,m+(6*c.N+1)⟩ (.bool true)):=by
 have HG:=hid hG
 have hm:=hG.may
 have hN:=hm.n
 have HM:=hid hm
 have HC:=hid (jk hm)
 have HF:Hid (JI c (List.replicate c.size 0) ((0:Nat):Int)):=hid (.inr ⟨0,rfl,by omega,jk hm 0 (by omega)⟩)
 have hfd:=bW (c.N:Int) (c.W:Int) (c.R:Int) (c.K:Int)
 clear hG hm
 go_enter Tryz.func35,Tryz.ntmps35
 have HT0:Hid (Touch (inG p) w w):=hid (Touch.refl _ _)
 go_wp2_with fail
 refine(sZ p c ⟨List.replicate c.size 0,m⟩ 0 _ HG.out HF.out).mono ?_
 rintro e wm1 ⟨rfl,hG,hT⟩
 have HG1:=hid hG
 have HT1:Hid (Touch (inG p) _ wm1):=hid (HT0.out.trans hT)
 clear hG hT
 go_wp2_with fail
 refine(cZ p c _ _ HG1.out).mono ?_
 rintro e wm2 ⟨rfl,hb⟩
 have HG2:=hid (HG1.out.later hb)
 have HT2:Hid (Touch (inG p) _ wm2):=hid (HT1.out.trans (Touch.of_below hb))
 clear hb
 go_wp2_with fail
 go_loopw [17] (fun i wr=>∃k:Nat,k≤c.N∧i=.int .i64 (k:Int)∧G wr p c ⟨kJ c k,m+(6*k+1)⟩∧Touch (inG p) w wr) (fun i _=>c.N-(intOf i).toNat)
 case atStart=>exact⟨0,Nat.zero_le _,rfl,HG2.out,HT2.out⟩
 case round=>
  obtain⟨k,hk,rfl,hG,hT⟩:=hrel
  have HG:=hid hG
  have HT:=hid hT
  clear hG hT
  have HT0:Hid (Touch (inG p) wr wr):=hid (Touch.refl _ _)
  by_cases hlt:k<c.N
  ·go_wp2_with fail
   refine(yC p c _ 0 k (List.range k) _ HG.out (HC.out k (by omega)) (by omega) hlt (by simp)).mono ?_
   rintro e wm1 ⟨rfl,hG,hT⟩
   have HG1:=hid hG
   have HT1:Hid (Touch (inG p) _ wm1):=hid (HT.out.trans hT)
   clear hG hT
   go_wp2_with fail
   go_roundw
   case rel=>exact⟨k+1,by omega,by go_num,HG1.out.to rfl (by show m+(6*k+1)+6=m+(6*(k+1)+1);omega),HT1.out⟩
   case measure=>simp[intOf];omega
  ·have e:k=c.N:=by omega
   have HE:Hid (G wr p c ⟨kJ c c.N,m+(6*c.N+1)⟩):=hid (by rw[←e];exact HG.out)
   clear e
   go_wp2_with fail
   go_ret
   exact⟨rfl,HE.out,HT.out⟩
theorem Eu{c:Cf}{zs:List Int}{b m:Nat}(hm:c.May)(hz:zs.length=c.size)(hb:b<c.N):St.wY ⟨eO c 0 b zs,m⟩ c (b:Int)=⟨bS c b zs,m+c.W⟩:=by
 have hw:=hm.w
 have hA:aB c (b:Int) 0=some (adr c b 0):=by
  have:=fQ (c:=c) (b:=b) (v:=0) hb (by omega)
  exact this
 have hl:adr c b 0+c.W≤(eO c 0 b zs).length:=by
  rw[eu,hz]
  have:=fu (c:=c) (b:=b) (v:=c.W-1) hb (by omega)
  unfold adr at *;omega
 unfold St.wY
 rw[hA]
 show St.lM ⟨eO c 0 b zs,m⟩ (adr c b 0) c.W=_
 have e1:(St.lM ⟨eO c 0 b zs,m⟩ (adr c b 0) c.W).zs=bS c b zs:=by
  refine Gt (by rw[St.rG,eT];exact eu _ _ _ _) (fun i hi=> ?_)
  rw[St.rG] at hi
  have hi2:i<c.size:=by rw[←hz,←eu c 0 b zs];exact hi
  rw[St.Mv _ _ _ _ hl,mq hz hi2]
  rfl
 have e2:(St.lM ⟨eO c 0 b zs,m⟩ (adr c b 0) c.W).m=m+c.W:=St.Qs _ _ _
 cases hs:St.lM ⟨eO c 0 b zs,m⟩ (adr c b 0) c.W with
 |mk z k=>rw[hs] at e1 e2;simp only at e1 e2;rw[e1,e2]
theorem Da(p:Pl)(c:Cf)(s:St)(b:Nat)(l:List Nat)(w:World)(hG:G w p c s)(hC:aR c s.zs 0 (b::l)):
  Calls Tryz.prog 175 #[.pointer (some ⟨p.a,0,none⟩)] w (GP w p c ⟨bS c b s.zs,s.m+(takeD l+c.W)⟩ (.tuple #[.int .i64 (b:Int),.bool true])):=by
 have H:=hid (ve p c s 0 b l w hG hC (by omega))
 have HE:=hid (Eu (m:=s.m+takeD l) hG.may hG.len (hC.lt b (by simp)))
 have HG:=hid hG
 clear hG hC
 go_enter Tryz.func175,Tryz.ntmps175
 have HT0:Hid (Touch (inG p) w w):=hid (Touch.refl _ _)
 go_wp2_with fail
 refine(H.out).mono ?_
 rintro e wm1 ⟨rfl,hG,hT⟩
 have HG1:=hid hG
 have HT1:Hid (Touch (inG p) _ wm1):=hid (HT0.out.trans hT)
 clear hG hT
 go_wp2_with fail
 refine(Mt p c _ (b:Int) _ HG1.out).mono ?_
 rw[HE.out]
 rintro e wm2 ⟨rfl,hG,hT⟩
 have HG2:=hid hG
 have HT2:Hid (Touch (inG p) _ wm2):=hid (HT1.out.trans hT)
 clear hG hT
 go_wp2_with fail
 go_ret2
 exact⟨rfl,HG2.out.to rfl (Nat.add_assoc _ _ _),HT2.out⟩
theorem tO(p:Pl)(c:Cf)(s:St)(b:Nat)(l:List Nat)(w:World)(hG:G w p c s)(hC:aR c s.zs 0 l)(hb:b<c.N)(hn:b∉l)(hk:uK (nth s.zs (adr c b 0))≠0):
  Calls Tryz.prog 189 #[.pointer (some ⟨p.a,0,none⟩),.int .i64 (b:Int)] w (GP w p c ⟨aU c b s.zs,s.m+(2+ko l)⟩ (.bool true)):=by
 have HG:=hid hG
 have hW:=hG.may.w
 have hbd:=hG.wf (adr c b 0)
 have W0:Hid (0<c.W):=hid (by omega)
 have HC:Hid (aR c (s.zs.set (adr c b 0) 0) 0 l):=hid (hC.only hG.may (by omega) hn (bE.set (by omega) 0))
 have hfd:=yZ
 obtain⟨t,ht⟩:∃t,nth s.zs (adr c b 0)=t:=⟨_,rfl⟩
 rw[ht] at hbd hk
 have HT:=hid ht
 have hkb:(uK t==0)=false:=lV hk
 have HN:=hid hn
 clear hG hC ht hk hn
 go_enter Tryz.func189,Tryz.ntmps189
 have HT0:Hid (Touch (inG p) w w):=hid (Touch.refl _ _)
 go_wp2_with fail
 refine(fq p c s b 0 _ _ t _ HG.out hb W0.out rfl rfl HT.out).mono ?_
 rintro e wm1 ⟨rfl,hG,hT⟩
 have HG1:=hid hG
 have HT1:Hid (Touch (inG p) _ wm1):=hid (HT0.out.trans hT)
 clear hG hT
 go_wp2_with fail
 refine(dh t _ hbd.1 hbd.2).mono ?_
 rintro e wm2 ⟨rfl,hb⟩
 have HG2:=hid (HG1.out.later hb)
 have HT2:Hid (Touch (inG p) _ wm2):=hid (HT1.out.trans (Touch.of_below hb))
 clear hb
 go_wp2_with fail
 refine(aK p c _ b 0 _ _ 0 _ HG2.out hb W0.out rfl rfl (by omega) (by omega)).mono ?_
 rintro e wm3 ⟨rfl,hG,hT⟩
 have HG3:=hid hG
 have HT3:Hid (Touch (inG p) _ wm3):=hid (HT2.out.trans hT)
 clear hG hT
 go_wp2_with fail
 refine(EE p c _ 0 b l _ HG3.out HC.out (by omega) hb HN.out).mono ?_
 rintro e wm4 ⟨rfl,hG,hT⟩
 have HG4:=hid hG
 have HT4:Hid (Touch (inG p) _ wm4):=hid (HT3.out.trans hT)
 clear hG hT
 go_wp2_with fail
 go_ret
 exact⟨rfl,HG4.out.to rfl (by show s.m+1+1+ko l=_;omega),HT4.out⟩
theorem Fx(p:Pl)(c:Cf)(s:St)(l:List Nat)(w:World)(hG:G w p c s)(hC:aR c s.zs 0 l):
  Calls Tryz.prog 28 #[.pointer (some ⟨p.a,0,none⟩)] w (GP w p c s.got (.int .i64 (l.length:Int))):=by
 have H:=hid (OZ p c s 0 l w hG hC (by omega))
 clear hG hC
 go_enter Tryz.func28,Tryz.ntmps28
 go_wp2_with fail
 refine H.out.mono ?_
 rintro e w1 ⟨rfl,hG,hT⟩
 have HG:=hid hG
 have HT:=hid hT
 clear hG hT
 go_wp2_with fail
 go_ret
 exact⟨rfl,HG.out,HT.out⟩
theorem poolFns:uB where
 open_yes := fun c hm => ⟨kJ c c.N, ⟨6 * c.N + 1, by omega, fun p m w hG => CZ p c m w hG⟩, Am hm⟩
 len:=fun c zs l hz hC=>⟨1,by omega,fun p m w hG=>Fx p c ⟨zs,m⟩ l w hG hC⟩
end Go.Proofs.YtjmifnljckmimaaGreat.Pk
