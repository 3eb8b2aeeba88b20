/-
  Texts laid together: RingFn, TintBits.
-/
import Derived.Test.YtjmifnljckmimaaGreatChainsEtc
import Derived.Test.YtjmifnljckmimaaGreatTagFnEtc
import Derived.Laws.BitsAllLaws
import Derived.BigQuiet
import Derived.LoopTactic
namespace Go.Proofs.YtjmifnljckmimaaGreat.Pk
open Lib (hid)
open Go.RowKit
set_option linter.unusedVariables false
set_option linter.unusedSimpArgs false
theorem QU{x:Int}(h0:0≤x)(h1:x≤4294967295)(hg:uG x=0):bits .or .u32 x 64=x+64:=by
 obtain⟨X,rfl⟩:=Int.eq_ofNat_of_zero_le h0
 unfold uG at hg
 rw[u32_or _ _ (by omega) (by omega) (by omega) (by omega)]
 have a0:=uJ X 6 1 0 (by decide) (by omega) (by decide)
 have a1:=uJ X 6 1 1 (by decide) (by omega) (by decide)
 simp only[Nat.zero_mul,Nat.or_zero,Nat.add_zero,Nat.one_mul] at a0 a1
 have e0:X &&& (4294967295-(2^1-1)*2^6)=X:=by omega
 rw[e0] at a1
 rw[Int.toNat_natCast,show(64:Int).toNat=2^6 from rfl,a1]
 omega
theorem PI{x:Int}(h0:0≤x)(h1:x≤4294967295)(hg:uG x=1):bits .andNot .u32 x 64=x-64:=by
 obtain⟨X,rfl⟩:=Int.eq_ofNat_of_zero_le h0
 unfold uG at hg
 rw[u32_andNot _ _ (by omega) (by omega) (by omega) (by omega)]
 have h:=uJ X 6 1 0 (by decide) (by omega) (by decide)
 simp only[Nat.zero_mul,Nat.or_zero,Nat.add_zero] at h
 rw[Int.toNat_natCast,show(64:Int).toNat=(2^1-1)*2^6 from rfl,h]
 omega
theorem Oq(k c n s d g o:Int)(w:World):(Instr.field 144 (.agg #[.int .i64 k,.int .i64 c,.int .i64 n,.int .i64 s,.int .i64 d,.int .i64 g,.int .i64 o]) 0).run Tryz.prog w=.ok (.int .i64 k) w:=by kernel_rfl
theorem Ot(k c n s d g o:Int)(w:World):(Instr.field 144 (.agg #[.int .i64 k,.int .i64 c,.int .i64 n,.int .i64 s,.int .i64 d,.int .i64 g,.int .i64 o]) 5).run Tryz.prog w=.ok (.int .i64 g) w:=by kernel_rfl
def jW(x:Int):Bool:=decide (uK x=1∨uK x=2)
def tN(x:Int):Bool:=decide (uG x=1)
theorem kZ{x:Int}(h:bF x):jW x=true:=decide_eq_true h
theorem jL(x:Int)(w:World)(h0:0≤x)(h1:x≤4294967295):
  Calls Tryz.prog 177 #[.int .u32 x] w fun e w'=>e=.returned (.bool (jW x))∧Below w.heap.size w w':=by
 have hfd:=Oq
 by_cases e1:uK x=1
 ·have E:Hid (jW x=true):=hid (kZ (.inl e1))
  have hb:=eq_b e1
  clear e1
  go_enter Tryz.func177,Tryz.ntmps177
  go_wp2_with fail
  refine(dh x _ h0 h1).mono ?_
  rintro e w1 ⟨rfl,hb1⟩
  have HB:=hid hb1
  clear hb1
  go_wp2_with fail
  go_ret
  exact⟨aH E.out.symm,HB.out⟩
 ·have hb:=neq_b e1
  have E:Hid ((uK x==2)=jW x):=hid (by
   unfold jW
   by_cases e2:uK x=2
   ·rw[eq_b e2];simp[e2]
   ·rw[neq_b e2];simp[e1,e2])
  clear e1
  go_enter Tryz.func177,Tryz.ntmps177
  go_wp2_with fail
  refine(dh x _ h0 h1).mono ?_
  rintro e w1 ⟨rfl,hb1⟩
  have HB:=hid hb1
  clear hb1
  go_wp2_with fail
  go_ret
  exact⟨aH E.out,HB.out⟩
theorem kL(x:Int)(w:World)(h0:0≤x)(h1:x≤4294967295):
  Calls Tryz.prog 178 #[.int .u32 x] w fun e w'=>e=.returned (.bool (tN x))∧Below w.heap.size w w':=by
 have hfd:=Ot
 have E:Hid ((uG x==1)=tN x):=hid (by
  unfold tN
  by_cases e2:uG x=1
  ·rw[eq_b e2];simp[e2]
  ·rw[neq_b e2];simp[e2])
 go_enter Tryz.func178,Tryz.ntmps178
 go_wp2_with fail
 refine(dh x _ h0 h1).mono ?_
 rintro e w1 ⟨rfl,hb1⟩
 have HB:=hid hb1
 clear hb1
 go_wp2_with fail
 go_ret
 exact⟨aH E.out,HB.out⟩
theorem Jr(w:World):Calls Tryz.prog 173 #[.agg #[.int .i64 1,.int .i64 0,.int .i64 0,.int .i64 0,.int .i64 0,.int .i64 1,.int .i64 0]] w fun e w'=>e=.returned (.tuple #[.int .u32 65,.int .i64 0])∧Below w.heap.size w w':=by
 have h:=eY 1 0 0 0 0 1 0 w (by decide)
 rw[show bZ 1 0 0 0 0 1 0=65 by decide] at h
 exact h
theorem Jq(w:World):Calls Tryz.prog 173 #[.agg #[.int .i64 1,.int .i64 0,.int .i64 0,.int .i64 0,.int .i64 0,.int .i64 0,.int .i64 0]] w fun e w'=>e=.returned (.tuple #[.int .u32 1,.int .i64 0])∧Below w.heap.size w w':=by
 have h:=eY 1 0 0 0 0 0 0 w (by decide)
 rw[show bZ 1 0 0 0 0 0 0=1 by decide] at h
 exact h
theorem GX(w:World):Calls Tryz.prog 180 #[] w fun e w'=>e=.returned (.int .u32 64)∧Below w.heap.size w w':=by
 have e1:bits .xor .u32 65 1=64:=by decide
 go_enter Tryz.func180,Tryz.ntmps180
 go_wp2_with fail
 refine(Jr _).mono ?_
 rintro e w1 ⟨rfl,hb1⟩
 have HB1:=hid hb1
 clear hb1
 go_wp2_with fail
 refine(Jq _).mono ?_
 rintro e w2 ⟨rfl,hb1⟩
 have HB2:=hid (below_step HB1.out hb1)
 clear hb1
 go_wp2_with fail
 go_ret
 exact⟨rfl,HB2.out⟩
theorem kT.fO{tg ts e:TypeId}{w:World}{p:Pl}{c:Cf}{s:St}{zs:List Int}{m:Nat}(h:kT tg ts e w p c s)(hz:s.zs=zs)(hm:s.m=m):kT tg ts e w p c ⟨zs,m⟩:=by subst hz hm;exact h
def Nm(c:Cf)(x:Int):Prop:=x=0∨∃a:Nat,a<c.N∧x=(a:Int)+1
theorem Nm.fst{c:Cf}:∀{l:List Nat},(∀b,b∈l→b<c.N)→Nm c (jU l)
 |[],_=>.inl rfl
 |b::_,h=>.inr ⟨b,h b (by simp),rfl⟩
theorem Nm.RL{c:Cf}{l:List Nat}(h:∀b,b∈l→b<c.N):Nm c (jY l):=by
 by_cases e:l=[]
 ·subst e;exact .inl rfl
 ·obtain⟨b,hb,he⟩:=gN l e
  exact .inr ⟨b,h b hb,he⟩
theorem Nm.bd{c:Cf}(hm:c.May){x:Int}(h:Nm c x):0≤x∧x≤1048576:=by
 have:=hm.n
 rcases h with rfl|⟨a,ha,rfl⟩<;>omega
def qC(c:Cf)(x y:Int)(zs:List Int):List Int:=if x=0 then zs.set 7 y else zs.set (adr c (x-1).toNat 7) y
def qD(c:Cf)(x y:Int)(zs:List Int):List Int:=if y=0 then zs.set 8 x else zs.set (adr c (y-1).toNat 6) x
def gM(c:Cf)(x y:Int)(zs:List Int):List Int:=qD c x y (qC c x y zs)
theorem fC(c:Cf)(x y:Int)(zs:List Int):(qC c x y zs).length=zs.length:=by unfold qC;split<;>simp
theorem lY(c:Cf)(x y:Int)(zs:List Int):(qD c x y zs).length=zs.length:=by unfold qD;split<;>simp
theorem dH(c:Cf)(x y:Int)(zs:List Int):(gM c x y zs).length=zs.length:=by unfold gM;rw[lY,fC]
theorem oK{c:Cf}{x y:Int}{zs:List Int}(hm:c.May)(hz:zs.length=c.size)(hx:Nm c x)(i:Nat):
  nth (qC c x y zs) i=if x=0 then(if i=7 then y else nth zs i) else if i=adr c (x-1).toNat 7 then y else nth zs i:=by
 have hs:=hm.size
 unfold qC
 rcases hx with rfl|⟨a,ha,rfl⟩
 ·rw[if_pos rfl,if_pos rfl,aX (by omega)]
 ·have:=iC hm ha (u:=7) (by omega)
  rw[show((a:Int)+1-1).toNat=a by omega,if_neg (by omega),if_neg (by omega),aX (by omega)]
theorem oL{c:Cf}{x y:Int}{zs:List Int}(hm:c.May)(hz:zs.length=c.size)(hy:Nm c y)(i:Nat):
  nth (qD c x y zs) i=if y=0 then(if i=8 then x else nth zs i) else if i=adr c (y-1).toNat 6 then x else nth zs i:=by
 have hs:=hm.size
 unfold qD
 rcases hy with rfl|⟨a,ha,rfl⟩
 ·rw[if_pos rfl,if_pos rfl,aX (by omega)]
 ·have:=iC hm ha (u:=6) (by omega)
  rw[show((a:Int)+1-1).toNat=a by omega,if_neg (by omega),if_neg (by omega),aX (by omega)]
theorem rW{c:Cf}{x y:Int}{zs:List Int}(hm:c.May)(hz:zs.length=c.size)(hx:Nm c x)(hy:Nm c y){r:Nat}(hr:r<24)(h7:r≠7)(h8:r≠8):
  nth (gM c x y zs) r=nth zs r:=by
 unfold gM
 rw[oL hm (by rw[fC];exact hz) hy,oK hm hz hx]
 have a1:∀b v,¬r=adr c b v:=fun b v=>uE hr
 simp[h7,h8,a1]
theorem Au(p:Pl)(c:Cf)(s:St)(x y:Int)(w:World)(hG:G w p c s)(hx:Nm c x)(hy:Nm c y):
  Calls Tryz.prog 179 #[.pointer (some ⟨p.a,0,none⟩),.int .i64 x,.int .i64 y] w (GP w p c ⟨gM c x y s.zs,s.m+2⟩ (.tuple #[])):=by
 have HG:=hid hG
 have hm:=hG.may
 have hN:=hm.n
 have hW:=hm.w
 have H6:Hid (6<c.W):=hid (by omega)
 have H7:Hid (7<c.W):=hid (by omega)
 have xb:=hx.bd hm
 have yb:=hy.bd hm
 have ux:IntKind.u32.wrap x=x:=IntWalk.u32_in _ (by omega)
 have uy:IntKind.u32.wrap y=y:=IntWalk.u32_in _ (by omega)
 clear hG hm
 rcases hx with rfl|⟨a,ha,rfl⟩
 ·rcases hy with rfl|⟨b,hb,rfl⟩
  ·have HE:Hid ((s.zs.set 7 0).set 8 0=gM c 0 0 s.zs):=hid (by
    unfold gM qD qC;rw[if_pos rfl,if_pos rfl])
   go_enter Tryz.func179,Tryz.ntmps179
   have HT0:Hid (Touch (inG p) w w):=hid (Touch.refl _ _)
   go_wp2_with fail
   refine(aO p c s 7 _ 0 _ HG.out (by omega) rfl (by omega) (by omega)).mono ?_
   rintro e wm1 ⟨rfl,hG,hT⟩
   have HG1:=hid hG
   have HT1:Hid (Touch (inG p) _ wm1):=hid (HT0.out.trans hT)
   clear hG hT
   go_wp2_with fail
   refine(aO p c _ 8 _ 0 _ HG1.out (by omega) rfl (by omega) (by omega)).mono ?_
   rintro e wm2 ⟨rfl,hG,hT⟩
   have HG2:=hid hG
   have HT2:Hid (Touch (inG p) _ wm2):=hid (HT1.out.trans hT)
   clear hG hT
   go_wp2_with fail
   go_end0
   exact⟨rfl,HG2.out.fO HE.out rfl,HT2.out⟩
  ·have hyn:((b:Int)+1==0)=false:=lV (by omega)
   have ew5:IntKind.i64.wrap ((b:Int)+1-1)=(b:Int):=by rw[Int.add_sub_cancel];exact IntWalk.i64_in _ (by omega)
   have HE:Hid ((s.zs.set 7 ((b:Int)+1)).set (adr c b 6) 0=gM c 0 ((b:Int)+1) s.zs):=hid (by
    unfold gM qD qC;rw[if_pos rfl,if_neg (by omega),show((b:Int)+1-1).toNat=b by omega])
   go_enter Tryz.func179,Tryz.ntmps179
   have HT0:Hid (Touch (inG p) w w):=hid (Touch.refl _ _)
   go_wp2_with fail
   refine(aO p c s 7 _ ((b:Int)+1) _ HG.out (by omega) rfl (by omega) (by omega)).mono ?_
   rintro e wm1 ⟨rfl,hG,hT⟩
   have HG1:=hid hG
   have HT1:Hid (Touch (inG p) _ wm1):=hid (HT0.out.trans hT)
   clear hG hT
   go_wp2_with fail
   refine(aK p c _ b 6 _ _ 0 _ HG1.out hb H6.out (by first|rfl|exact ew5) rfl (by omega) (by omega)).mono ?_
   rintro e wm2 ⟨rfl,hG,hT⟩
   have HG2:=hid hG
   have HT2:Hid (Touch (inG p) _ wm2):=hid (HT1.out.trans hT)
   clear hG hT
   go_wp2_with fail
   go_end0
   exact⟨rfl,HG2.out.fO HE.out rfl,HT2.out⟩
 ·have hxn:((a:Int)+1==0)=false:=lV (by omega)
  have ew4:IntKind.i64.wrap ((a:Int)+1-1)=(a:Int):=by rw[Int.add_sub_cancel];exact IntWalk.i64_in _ (by omega)
  rcases hy with rfl|⟨b,hb,rfl⟩
  ·have HE:Hid ((s.zs.set (adr c a 7) 0).set 8 ((a:Int)+1)=gM c ((a:Int)+1) 0 s.zs):=hid (by
    unfold gM qD qC;rw[if_pos rfl,if_neg (by omega),show((a:Int)+1-1).toNat=a by omega])
   go_enter Tryz.func179,Tryz.ntmps179
   have HT0:Hid (Touch (inG p) w w):=hid (Touch.refl _ _)
   go_wp2_with fail
   refine(aK p c s a 7 _ _ 0 _ HG.out ha H7.out (by first|rfl|exact ew4) rfl (by omega) (by omega)).mono ?_
   rintro e wm1 ⟨rfl,hG,hT⟩
   have HG1:=hid hG
   have HT1:Hid (Touch (inG p) _ wm1):=hid (HT0.out.trans hT)
   clear hG hT
   go_wp2_with fail
   refine(aO p c _ 8 _ ((a:Int)+1) _ HG1.out (by omega) rfl (by omega) (by omega)).mono ?_
   rintro e wm2 ⟨rfl,hG,hT⟩
   have HG2:=hid hG
   have HT2:Hid (Touch (inG p) _ wm2):=hid (HT1.out.trans hT)
   clear hG hT
   go_wp2_with fail
   go_end0
   exact⟨rfl,HG2.out.fO HE.out rfl,HT2.out⟩
  ·have hyn:((b:Int)+1==0)=false:=lV (by omega)
   have ew5:IntKind.i64.wrap ((b:Int)+1-1)=(b:Int):=by rw[Int.add_sub_cancel];exact IntWalk.i64_in _ (by omega)
   have HE:Hid ((s.zs.set (adr c a 7) ((b:Int)+1)).set (adr c b 6) ((a:Int)+1)=gM c ((a:Int)+1) ((b:Int)+1) s.zs):=hid (by
    unfold gM qD qC;rw[if_neg (by omega),if_neg (by omega),show((b:Int)+1-1).toNat=b by omega,show((a:Int)+1-1).toNat=a by omega])
   go_enter Tryz.func179,Tryz.ntmps179
   have HT0:Hid (Touch (inG p) w w):=hid (Touch.refl _ _)
   go_wp2_with fail
   refine(aK p c s a 7 _ _ ((b:Int)+1) _ HG.out ha H7.out (by first|rfl|exact ew4) rfl (by omega) (by omega)).mono ?_
   rintro e wm1 ⟨rfl,hG,hT⟩
   have HG1:=hid hG
   have HT1:Hid (Touch (inG p) _ wm1):=hid (HT0.out.trans hT)
   clear hG hT
   go_wp2_with fail
   refine(aK p c _ b 6 _ _ ((a:Int)+1) _ HG1.out hb H6.out (by first|rfl|exact ew5) rfl (by omega) (by omega)).mono ?_
   rintro e wm2 ⟨rfl,hG,hT⟩
   have HG2:=hid hG
   have HT2:Hid (Touch (inG p) _ wm2):=hid (HT1.out.trans hT)
   clear hG hT
   go_wp2_with fail
   go_end0
   exact⟨rfl,HG2.out.fO HE.out rfl,HT2.out⟩
theorem IV{x:Int}(h0:0≤x)(h1:x≤4294967295):bits .andNot .u32 x x=0:=by
 obtain⟨X,rfl⟩:=Int.eq_ofNat_of_zero_le h0
 rw[u32_andNot _ _ (by omega) (by omega) (by omega) (by omega),Int.toNat_natCast]
 have h:X &&& (4294967295-X)=0:=by
  apply Nat.eq_of_testBit_eq
  intro i
  rw[Nat.testBit_and,show 4294967295-X=2^32-(X+1) by omega,Nat.testBit_two_pow_sub_succ (by omega)]
  cases X.testBit i<;>simp
 rw[h]
 rfl
theorem ND{y:Int}(h0:0≤y)(h1:y≤4294967295):bits .or .u32 0 y=y:=by
 obtain⟨Y,rfl⟩:=Int.eq_ofNat_of_zero_le h0
 rw[u32_or _ _ (by omega) (by omega) (by omega) (by omega),Int.toNat_natCast]
 simp
def dD(x c n s d:Int):Int:=bZ (uK x) c n s d (uG x) 0
theorem pY{x c n s d:Int}(hx:dB x)(hk:bF x)(hc:c=0∨c=1)(hn:n=0∨n=1)(hs:s=0∨s=1)(hd:d=0∨d=1):bY (uK x) c n s d (uG x) 0:=by
 have:=Mq x
 unfold bF at hk
 unfold bY
 omega
theorem mi{x c n s d:Int}(hx:dB x)(hk:bF x)(hc:c=0∨c=1)(hn:n=0∨n=1)(hs:s=0∨s=1)(hd:d=0∨d=1):
  dB (dD x c n s d)∧uK (dD x c n s d)=uK x∧uC (dD x c n s d)=c∧uN (dD x c n s d)=n∧uS (dD x c n s d)=s∧uD (dD x c n s d)=d∧uG (dD x c n s d)=uG x∧0≤dD x c n s d∧dD x c n s d≤4294967295:=by
 have hr:=pY hx hk hc hn hs hd
 obtain⟨e1,e2,e3,e4,e5,e6,e7⟩:=unpack_pack hr
 have hg:=Mq x
 have hk':=hk
 unfold bF at hk'
 have hb:0≤dD x c n s d∧dD x c n s d<128:=by unfold dD bZ;omega
 refine⟨⟨?_,by omega,hb.1⟩,e1,e2,e3,e4,e5,e6,hb.1,by omega⟩
 unfold dD
 rw[e1,e2,e3,e4,e5,e6,e7]
 exact hr
theorem bC(x:Int):(uC x=0∨uC x=1)∧(uN x=0∨uN x=1)∧(uS x=0∨uS x=1)∧(uD x=0∨uD x=1):=by unfold uC uN uS uD;omega
theorem Ib{r:Int}{f g:Th→Th}(hf:∀t,(f t).at r=t.at r):∀l:List Th,bz r g (bz r f l)=bz r (fun t=>g (f t)) l
 |[]=>rfl
 |u::l=>by
  unfold bz
  cases h:u.at r with
  |true=>simp[bz,hf,h]
  |false=>simp[bz,h,Ib hf l]
theorem lm(D:Wd)(r:Int)(f g:Mrk→Mrk):(D.mark r f).mark r g=D.mark r (fun m=>g (f m)):=by
 unfold Wd.mark Wd.upd
 simp only
 rw[Ib (f:=fun t=>{t with mr:=f t.mr}) (fun _=>rfl)]
theorem mark_find{D:Wd}{r:Int}{t:Th}(f:Mrk→Mrk)(h:D.find r=some t):(D.mark r f).find r=some {t with mr:=f t.mr}:=by
 rw[find_mark,h]
 have:t.at r=true:=by
  have:=find_at h
  unfold Th.at
  simp[this.2.1,this.2.2]
 simp[this]
section
variable {c:Cf} {zs:List Int} {D:Wd} {t:Th} {r:Int}
theorem av.fH(R:av c zs D)(hf:D.find r=some t):dB (nth zs (adr c t.h 0))∧bF (nth zs (adr c t.h 0))∧t.ob∈D.obs∧(t.h:Int)+1=r∧zB c zs t.h t.mr:=by
 obtain⟨h1,h2⟩:=find_live hf
 have ho:=R.obMem h1
 have:=R.heap.obs _ ho
 exact⟨this.tok,this.head,ho,h2,R.own t h1⟩
theorem av.PG(R:av c zs D)(hm:c.May)(hz:zs.length=c.size)(hf:D.find r=some t){c' n' s' d':Int}(hc:c'=0∨c'=1)(hn:n'=0∨n'=1)(hs:s'=0∨s'=1)(hd:d'=0∨d'=1)(hdd:t.mr.dead=true→d'=1){f:Mrk→Mrk}
  (hm':f t.mr={t.mr with color:=c',count:=n',shade:=s',dead:=decide (d'=1)}):av c (zs.set (adr c t.h 0) (dD (nth zs (adr c t.h 0)) c' n' s' d')) (D.mark r f):=by
 obtain⟨h1,h2,h3,h4,h5⟩:=R.fH hf
 obtain⟨e1,e2,e3,e4,e5,e6,e7,_⟩:=mi h1 h2 hc hn hs hd
 exact R.setTag hm hz hf e1 e2 e7 (by rw[e3,e4,e5,e6];exact hm') (fun h=>by rw[e6];exact hdd h)
theorem zB.yE{b:Nat}{m:Mrk}(h:zB c zs b m):decide (uD (nth zs (adr c b 0))=1)=m.dead:=by
 rw[h.cD]
 cases m.dead<;>rfl
theorem zB.Kj{b:Nat}{m:Mrk}(h:zB c zs b m)(hd:m.dead=true):uD (nth zs (adr c b 0))=1:=by
 rw[h.cD,hd];rfl
theorem zB.OE{b:Nat}{m:Mrk}(h:zB c zs b m)(hd:m.dead=false):uD (nth zs (adr c b 0))=0:=by
 rw[h.cD,hd];rfl
end
end Go.Proofs.YtjmifnljckmimaaGreat.Pk
