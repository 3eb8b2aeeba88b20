/-
  Texts laid together: RingFn, TintBits.
-/
import Derived.Test.YtbfdimibehkbjaaGreatChainsEtc
import Derived.Test.YtbfdimibehkbjaaGreatTagFnEtc
import Derived.Laws.BitsAllLaws
import Derived.BigQuiet
import Derived.LoopTactic
namespace Go.Proofs.YtbfdimibehkbjaaGreat.Pk
open Lib (hid)
open Go.RowKit
set_option linter.unusedVariables false
set_option linter.unusedSimpArgs false
theorem Ql{x:Int}(h0:0≤x)(h1:x≤4294967295)(hg:uG x=0):bits .or .u32 x 64=x+64:=by
 obtain⟨X,rfl⟩:=Int.eq_ofNat_of_zero_le h0
 unfold uG at hg
 rw[u32_or _ _ (by omega) (by omega) (by omega) (by omega)]
 have a0:=vM X 6 1 0 (by decide) (by omega) (by decide)
 have a1:=vM X 6 1 1 (by decide) (by omega) (by decide)
 simp only[Nat.zero_mul,Nat.or_zero,Nat.add_zero,Nat.one_mul] at a0 a1
 have e0:X &&& (4294967295-(2^1-1)*2^6)=X:=by omega
 rw[e0] at a1
 rw[Int.toNat_natCast,show(64:Int).toNat=2^6 from rfl,a1]
 omega
theorem OO{x:Int}(h0:0≤x)(h1:x≤4294967295)(hg:uG x=1):bits .andNot .u32 x 64=x-64:=by
 obtain⟨X,rfl⟩:=Int.eq_ofNat_of_zero_le h0
 unfold uG at hg
 rw[u32_andNot _ _ (by omega) (by omega) (by omega) (by omega)]
 have h:=vM X 6 1 0 (by decide) (by omega) (by decide)
 simp only[Nat.zero_mul,Nat.or_zero,Nat.add_zero] at h
 rw[Int.toNat_natCast,show(64:Int).toNat=(2^1-1)*2^6 from rfl,h]
 omega
theorem ND(k c n s d g o:Int)(w:World):(Instr.field 111 (.agg #[.int .i64 k,.int .i64 c,.int .i64 n,.int .i64 s,.int .i64 d,.int .i64 g,.int .i64 o]) 0).run Tryz.prog w=.ok (.int .i64 k) w:=by kernel_rfl
theorem NE(k c n s d g o:Int)(w:World):(Instr.field 111 (.agg #[.int .i64 k,.int .i64 c,.int .i64 n,.int .i64 s,.int .i64 d,.int .i64 g,.int .i64 o]) 5).run Tryz.prog w=.ok (.int .i64 g) w:=by kernel_rfl
def kK(x:Int):Bool:=decide (uK x=1∨uK x=2)
def uJ(x:Int):Bool:=decide (uG x=1)
theorem ma{x:Int}(h:bF x):kK x=true:=decide_eq_true h
theorem kC(x:Int)(w:World)(h0:0≤x)(h1:x≤4294967295):
  Calls Tryz.prog 183 #[.int .u32 x] w fun e w'=>e=.returned (.bool (kK x))∧Below w.heap.size w w':=by
 have hfd:=ND
 by_cases e1:uK x=1
 ·have E:Hid (kK x=true):=hid (ma (.inl e1))
  have hb:=BD e1
  clear e1
  go_enter Tryz.func183,Tryz.ntmps183
  go_wp2_with fail
  refine(tunpack_any x _ h0 h1).mono ?_
  rintro e w1 ⟨rfl,hb1⟩
  have HB:=hid hb1
  clear hb1
  go_wp2_with fail
  go_ret
  exact⟨aK E.out.symm,HB.out⟩
 ·have hb:=fB e1
  have E:Hid ((uK x==2)=kK x):=hid (by
   unfold kK
   by_cases e2:uK x=2
   ·rw[BD e2];simp[e2]
   ·rw[fB e2];simp[e1,e2])
  clear e1
  go_enter Tryz.func183,Tryz.ntmps183
  go_wp2_with fail
  refine(tunpack_any x _ h0 h1).mono ?_
  rintro e w1 ⟨rfl,hb1⟩
  have HB:=hid hb1
  clear hb1
  go_wp2_with fail
  go_ret
  exact⟨aK E.out,HB.out⟩
theorem lJ(x:Int)(w:World)(h0:0≤x)(h1:x≤4294967295):
  Calls Tryz.prog 184 #[.int .u32 x] w fun e w'=>e=.returned (.bool (uJ x))∧Below w.heap.size w w':=by
 have hfd:=NE
 have E:Hid ((uG x==1)=uJ x):=hid (by
  unfold uJ
  by_cases e2:uG x=1
  ·rw[BD e2];simp[e2]
  ·rw[fB e2];simp[e2])
 go_enter Tryz.func184,Tryz.ntmps184
 go_wp2_with fail
 refine(tunpack_any x _ h0 h1).mono ?_
 rintro e w1 ⟨rfl,hb1⟩
 have HB:=hid hb1
 clear hb1
 go_wp2_with fail
 go_ret
 exact⟨aK E.out,HB.out⟩
theorem IZ(w:World):Calls Tryz.prog 159 #[.agg #[.int .i64 1,.int .i64 0,.int .i64 0,.int .i64 0,.int .i64 0,.int .i64 1,.int .i64 0]] w fun e w'=>e=.returned (.tuple #[.int .u32 65,.int .i64 0])∧Below w.heap.size w w':=by
 have h:=tpack_yes 1 0 0 0 0 1 0 w (by decide)
 rw[show packI 1 0 0 0 0 1 0=65 by decide] at h
 exact h
theorem IY(w:World):Calls Tryz.prog 159 #[.agg #[.int .i64 1,.int .i64 0,.int .i64 0,.int .i64 0,.int .i64 0,.int .i64 0,.int .i64 0]] w fun e w'=>e=.returned (.tuple #[.int .u32 1,.int .i64 0])∧Below w.heap.size w w':=by
 have h:=tpack_yes 1 0 0 0 0 0 0 w (by decide)
 rw[show packI 1 0 0 0 0 0 0=1 by decide] at h
 exact h
theorem Gr(w:World):Calls Tryz.prog 186 #[] w fun e w'=>e=.returned (.int .u32 64)∧Below w.heap.size w w':=by
 have e1:bits .xor .u32 65 1=64:=by decide
 go_enter Tryz.func186,Tryz.ntmps186
 go_wp2_with fail
 refine(IZ _).mono ?_
 rintro e w1 ⟨rfl,hb1⟩
 have HB1:=hid hb1
 clear hb1
 go_wp2_with fail
 refine(IY _).mono ?_
 rintro e w2 ⟨rfl,hb1⟩
 have HB2:=hid (below_step HB1.out hb1)
 clear hb1
 go_wp2_with fail
 go_ret
 exact⟨rfl,HB2.out⟩
theorem lQ.iO{tg ts e:TypeId}{w:World}{p:Pl}{c:Cf}{s:St}{zs:List Int}{m:Nat}(h:lQ tg ts e w p c s)(hz:s.zs=zs)(hm:s.m=m):lQ tg ts e w p c ⟨zs,m⟩:=by subst hz hm;exact h
def Nm(c:Cf)(x:Int):Prop:=x=0∨∃a:Nat,a<c.N∧x=(a:Int)+1
theorem Nm.fst{c:Cf}:∀{l:List Nat},(∀b,b∈l→b<c.N)→Nm c (jY l)
 |[],_=>.inl rfl
 |b::_,h=>.inr ⟨b,h b (by simp),rfl⟩
theorem Nm.QM{c:Cf}{l:List Nat}(h:∀b,b∈l→b<c.N):Nm c (kN l):=by
 by_cases e:l=[]
 ·subst e;exact .inl rfl
 ·obtain⟨b,hb,he⟩:=iC l e
  exact .inr ⟨b,h b hb,he⟩
theorem Nm.bd{c:Cf}(hm:c.May){x:Int}(h:Nm c x):0≤x∧x≤1048576:=by
 have:=hm.n
 rcases h with rfl|⟨a,ha,rfl⟩<;>omega
def ry(c:Cf)(x y:Int)(zs:List Int):List Int:=if x=0 then zs.set 7 y else zs.set (adr c (x-1).toNat 7) y
def rz(c:Cf)(x y:Int)(zs:List Int):List Int:=if y=0 then zs.set 8 x else zs.set (adr c (y-1).toNat 6) x
def iB(c:Cf)(x y:Int)(zs:List Int):List Int:=rz c x y (ry c x y zs)
theorem fU(c:Cf)(x y:Int)(zs:List Int):(ry c x y zs).length=zs.length:=by unfold ry;split<;>simp
theorem mY(c:Cf)(x y:Int)(zs:List Int):(rz c x y zs).length=zs.length:=by unfold rz;split<;>simp
theorem dU(c:Cf)(x y:Int)(zs:List Int):(iB c x y zs).length=zs.length:=by unfold iB;rw[mY,fU]
theorem pI{c:Cf}{x y:Int}{zs:List Int}(hm:c.May)(hz:zs.length=c.size)(hx:Nm c x)(i:Nat):
  nth (ry c x y zs) i=if x=0 then(if i=7 then y else nth zs i) else if i=adr c (x-1).toNat 7 then y else nth zs i:=by
 have hs:=hm.size
 unfold ry
 rcases hx with rfl|⟨a,ha,rfl⟩
 ·rw[if_pos rfl,if_pos rfl,aW (by omega)]
 ·have:=gF hm ha (u:=7) (by omega)
  rw[show((a:Int)+1-1).toNat=a by omega,if_neg (by omega),if_neg (by omega),aW (by omega)]
theorem pJ{c:Cf}{x y:Int}{zs:List Int}(hm:c.May)(hz:zs.length=c.size)(hy:Nm c y)(i:Nat):
  nth (rz c x y zs) i=if y=0 then(if i=8 then x else nth zs i) else if i=adr c (y-1).toNat 6 then x else nth zs i:=by
 have hs:=hm.size
 unfold rz
 rcases hy with rfl|⟨a,ha,rfl⟩
 ·rw[if_pos rfl,if_pos rfl,aW (by omega)]
 ·have:=gF hm ha (u:=6) (by omega)
  rw[show((a:Int)+1-1).toNat=a by omega,if_neg (by omega),if_neg (by omega),aW (by omega)]
theorem tF{c:Cf}{x y:Int}{zs:List Int}(hm:c.May)(hz:zs.length=c.size)(hx:Nm c x)(hy:Nm c y){r:Nat}(hr:r<24)(h7:r≠7)(h8:r≠8):
  nth (iB c x y zs) r=nth zs r:=by
 unfold iB
 rw[pJ hm (by rw[fU];exact hz) hy,pI hm hz hx]
 have a1:∀b v,¬r=adr c b v:=fun b v=>vF hr
 simp[h7,h8,a1]
theorem Ai(p:Pl)(c:Cf)(s:St)(x y:Int)(w:World)(hG:G w p c s)(hx:Nm c x)(hy:Nm c y):
  Calls Tryz.prog 185 #[.pointer (some ⟨p.a,0,none⟩),.int .i64 x,.int .i64 y] w (GP w p c ⟨iB c x y s.zs,s.m+2⟩ (.tuple #[])):=by
 have HG:=hid hG
 have hm:=hG.may
 have hN:=hm.n
 have hW:=hm.w
 have H6:Hid (6<c.W):=hid (by omega)
 have H7:Hid (7<c.W):=hid (by omega)
 have xb:=hx.bd hm
 have yb:=hy.bd hm
 have ux:IntKind.u32.wrap x=x:=IntWalk.u32_in _ (by omega)
 have uy:IntKind.u32.wrap y=y:=IntWalk.u32_in _ (by omega)
 clear hG hm
 rcases hx with rfl|⟨a,ha,rfl⟩
 ·rcases hy with rfl|⟨b,hb,rfl⟩
  ·have HE:Hid ((s.zs.set 7 0).set 8 0=iB c 0 0 s.zs):=hid (by
    unfold iB rz ry;rw[if_pos rfl,if_pos rfl])
   go_enter Tryz.func185,Tryz.ntmps185
   have HT0:Hid (Touch (inG p) w w):=hid (Touch.refl _ _)
   go_wp2_with fail
   refine(aN p c s 7 _ 0 _ HG.out (by omega) rfl (by omega) (by omega)).mono ?_
   rintro e wm1 ⟨rfl,hG,hT⟩
   have HG1:=hid hG
   have HT1:Hid (Touch (inG p) _ wm1):=hid (HT0.out.trans hT)
   clear hG hT
   go_wp2_with fail
   refine(aN p c _ 8 _ 0 _ HG1.out (by omega) rfl (by omega) (by omega)).mono ?_
   rintro e wm2 ⟨rfl,hG,hT⟩
   have HG2:=hid hG
   have HT2:Hid (Touch (inG p) _ wm2):=hid (HT1.out.trans hT)
   clear hG hT
   go_wp2_with fail
   go_end0
   exact⟨rfl,HG2.out.iO HE.out rfl,HT2.out⟩
  ·have hyn:((b:Int)+1==0)=false:=mU (by omega)
   have ew5:IntKind.i64.wrap ((b:Int)+1-1)=(b:Int):=by rw[Int.add_sub_cancel];exact IntWalk.i64_in _ (by omega)
   have HE:Hid ((s.zs.set 7 ((b:Int)+1)).set (adr c b 6) 0=iB c 0 ((b:Int)+1) s.zs):=hid (by
    unfold iB rz ry;rw[if_pos rfl,if_neg (by omega),show((b:Int)+1-1).toNat=b by omega])
   go_enter Tryz.func185,Tryz.ntmps185
   have HT0:Hid (Touch (inG p) w w):=hid (Touch.refl _ _)
   go_wp2_with fail
   refine(aN p c s 7 _ ((b:Int)+1) _ HG.out (by omega) rfl (by omega) (by omega)).mono ?_
   rintro e wm1 ⟨rfl,hG,hT⟩
   have HG1:=hid hG
   have HT1:Hid (Touch (inG p) _ wm1):=hid (HT0.out.trans hT)
   clear hG hT
   go_wp2_with fail
   refine(aJ p c _ b 6 _ _ 0 _ HG1.out hb H6.out (by first|rfl|exact ew5) rfl (by omega) (by omega)).mono ?_
   rintro e wm2 ⟨rfl,hG,hT⟩
   have HG2:=hid hG
   have HT2:Hid (Touch (inG p) _ wm2):=hid (HT1.out.trans hT)
   clear hG hT
   go_wp2_with fail
   go_end0
   exact⟨rfl,HG2.out.iO HE.out rfl,HT2.out⟩
 ·have hxn:((a:Int)+1==0)=false:=mU (by omega)
  have ew4:IntKind.i64.wrap ((a:Int)+1-1)=(a:Int):=by rw[Int.add_sub_cancel];exact IntWalk.i64_in _ (by omega)
  rcases hy with rfl|⟨b,hb,rfl⟩
  ·have HE:Hid ((s.zs.set (adr c a 7) 0).set 8 ((a:Int)+1)=iB c ((a:Int)+1) 0 s.zs):=hid (by
    unfold iB rz ry;rw[if_pos rfl,if_neg (by omega),show((a:Int)+1-1).toNat=a by omega])
   go_enter Tryz.func185,Tryz.ntmps185
   have HT0:Hid (Touch (inG p) w w):=hid (Touch.refl _ _)
   go_wp2_with fail
   refine(aJ p c s a 7 _ _ 0 _ HG.out ha H7.out (by first|rfl|exact ew4) rfl (by omega) (by omega)).mono ?_
   rintro e wm1 ⟨rfl,hG,hT⟩
   have HG1:=hid hG
   have HT1:Hid (Touch (inG p) _ wm1):=hid (HT0.out.trans hT)
   clear hG hT
   go_wp2_with fail
   refine(aN p c _ 8 _ ((a:Int)+1) _ HG1.out (by omega) rfl (by omega) (by omega)).mono ?_
   rintro e wm2 ⟨rfl,hG,hT⟩
   have HG2:=hid hG
   have HT2:Hid (Touch (inG p) _ wm2):=hid (HT1.out.trans hT)
   clear hG hT
   go_wp2_with fail
   go_end0
   exact⟨rfl,HG2.out.iO HE.out rfl,HT2.out⟩
  ·have hyn:((b:Int)+1==0)=false:=mU (by omega)
   have ew5:IntKind.i64.wrap ((b:Int)+1-1)=(b:Int):=by rw[Int.add_sub_cancel];exact IntWalk.i64_in _ (by omega)
   have HE:Hid ((s.zs.set (adr c a 7) ((b:Int)+1)).set (adr c b 6) ((a:Int)+1)=iB c ((a:Int)+1) ((b:Int)+1) s.zs):=hid (by
    unfold iB rz ry;rw[if_neg (by omega),if_neg (by omega),show((b:Int)+1-1).toNat=b by omega,show((a:Int)+1-1).toNat=a by omega])
   go_enter Tryz.func185,Tryz.ntmps185
   have HT0:Hid (Touch (inG p) w w):=hid (Touch.refl _ _)
   go_wp2_with fail
   refine(aJ p c s a 7 _ _ ((b:Int)+1) _ HG.out ha H7.out (by first|rfl|exact ew4) rfl (by omega) (by omega)).mono ?_
   rintro e wm1 ⟨rfl,hG,hT⟩
   have HG1:=hid hG
   have HT1:Hid (Touch (inG p) _ wm1):=hid (HT0.out.trans hT)
   clear hG hT
   go_wp2_with fail
   refine(aJ p c _ b 6 _ _ ((a:Int)+1) _ HG1.out hb H6.out (by first|rfl|exact ew5) rfl (by omega) (by omega)).mono ?_
   rintro e wm2 ⟨rfl,hG,hT⟩
   have HG2:=hid hG
   have HT2:Hid (Touch (inG p) _ wm2):=hid (HT1.out.trans hT)
   clear hG hT
   go_wp2_with fail
   go_end0
   exact⟨rfl,HG2.out.iO HE.out rfl,HT2.out⟩
theorem Iu{x:Int}(h0:0≤x)(h1:x≤4294967295):bits .andNot .u32 x x=0:=by
 obtain⟨X,rfl⟩:=Int.eq_ofNat_of_zero_le h0
 rw[u32_andNot _ _ (by omega) (by omega) (by omega) (by omega),Int.toNat_natCast]
 have h:X &&& (4294967295-X)=0:=by
  apply Nat.eq_of_testBit_eq
  intro i
  rw[Nat.testBit_and,show 4294967295-X=2^32-(X+1) by omega,Nat.testBit_two_pow_sub_succ (by omega)]
  cases X.testBit i<;>simp
 rw[h]
 rfl
theorem MZ{y:Int}(h0:0≤y)(h1:y≤4294967295):bits .or .u32 0 y=y:=by
 obtain⟨Y,rfl⟩:=Int.eq_ofNat_of_zero_le h0
 rw[u32_or _ _ (by omega) (by omega) (by omega) (by omega),Int.toNat_natCast]
 simp
def dW(x c n s d:Int):Int:=packI (uK x) c n s d (uG x) 0
theorem qB{x c n s d:Int}(hx:dC x)(hk:bF x)(hc:c=0∨c=1)(hn:n=0∨n=1)(hs:s=0∨s=1)(hd:d=0∨d=1):bN (uK x) c n s d (uG x) 0:=by
 have:=LF x
 unfold bF at hk
 unfold bN
 omega
theorem nz{x c n s d:Int}(hx:dC x)(hk:bF x)(hc:c=0∨c=1)(hn:n=0∨n=1)(hs:s=0∨s=1)(hd:d=0∨d=1):
  dC (dW x c n s d)∧uK (dW x c n s d)=uK x∧uC (dW x c n s d)=c∧uN (dW x c n s d)=n∧uS (dW x c n s d)=s∧uD (dW x c n s d)=d∧uG (dW x c n s d)=uG x∧0≤dW x c n s d∧dW x c n s d≤4294967295:=by
 have hr:=qB hx hk hc hn hs hd
 obtain⟨e1,e2,e3,e4,e5,e6,e7⟩:=unpack_pack hr
 have hg:=LF x
 have hk':=hk
 unfold bF at hk'
 have hb:0≤dW x c n s d∧dW x c n s d<128:=by unfold dW packI;omega
 refine⟨⟨?_,by omega,hb.1⟩,e1,e2,e3,e4,e5,e6,hb.1,by omega⟩
 unfold dW
 rw[e1,e2,e3,e4,e5,e6,e7]
 exact hr
theorem bT(x:Int):(uC x=0∨uC x=1)∧(uN x=0∨uN x=1)∧(uS x=0∨uS x=1)∧(uD x=0∨uD x=1):=by unfold uC uN uS uD;omega
theorem GI{r:Int}{f g:Th→Th}(hf:∀t,(f t).at r=t.at r):∀l:List Th,bL r g (bL r f l)=bL r (fun t=>g (f t)) l
 |[]=>rfl
 |u::l=>by
  unfold bL
  cases h:u.at r with
  |true=>simp[bL,hf,h]
  |false=>simp[bL,h,GI hf l]
theorem mh(D:Wd)(r:Int)(f g:bZ→bZ):(D.mark r f).mark r g=D.mark r (fun m=>g (f m)):=by
 unfold Wd.mark Wd.upd
 simp only
 rw[GI (f:=fun t=>{t with mr:=f t.mr}) (fun _=>rfl)]
theorem gZ{D:Wd}{r:Int}{t:Th}(f:bZ→bZ)(h:D.find r=some t):(D.mark r f).find r=some {t with mr:=f t.mr}:=by
 rw[eQ,h]
 have:t.at r=true:=by
  have:=aQ h
  unfold Th.at
  simp[this.2.1,this.2.2]
 simp[this]
section
variable {c:Cf} {zs:List Int} {D:Wd} {t:Th} {r:Int}
theorem aA.gy(R:aA c zs D)(hf:D.find r=some t):dC (nth zs (adr c t.h 0))∧bF (nth zs (adr c t.h 0))∧t.ob∈D.bU∧(t.h:Int)+1=r∧zC c zs t.h t.mr:=by
 obtain⟨h1,h2⟩:=ae hf
 have ho:=R.bQ h1
 have:=R.heap.bU _ ho
 exact⟨this.tok,this.head,ho,h2,R.own t h1⟩
theorem aA.OM(R:aA c zs D)(hm:c.May)(hz:zs.length=c.size)(hf:D.find r=some t){c' n' s' d':Int}(hc:c'=0∨c'=1)(hn:n'=0∨n'=1)(hs:s'=0∨s'=1)(hd:d'=0∨d'=1)(hdd:t.mr.dead=true→d'=1){f:bZ→bZ}
  (hm':f t.mr={t.mr with color:=c',count:=n',shade:=s',dead:=decide (d'=1)}):aA c (zs.set (adr c t.h 0) (dW (nth zs (adr c t.h 0)) c' n' s' d')) (D.mark r f):=by
 obtain⟨h1,h2,h3,h4,h5⟩:=R.gy hf
 obtain⟨e1,e2,e3,e4,e5,e6,e7,_⟩:=nz h1 h2 hc hn hs hd
 exact R.setTag hm hz hf e1 e2 e7 (by rw[e3,e4,e5,e6];exact hm') (fun h=>by rw[e6];exact hdd h)
theorem zC.yM{b:Nat}{m:bZ}(h:zC c zs b m):decide (uD (nth zs (adr c b 0))=1)=m.dead:=by
 rw[h.cD]
 cases m.dead<;>rfl
theorem zC.JN{b:Nat}{m:bZ}(h:zC c zs b m)(hd:m.dead=true):uD (nth zs (adr c b 0))=1:=by
 rw[h.cD,hd];rfl
theorem zC.NT{b:Nat}{m:bZ}(h:zC c zs b m)(hd:m.dead=false):uD (nth zs (adr c b 0))=0:=by
 rw[h.cD,hd];rfl
end
end Go.Proofs.YtbfdimibehkbjaaGreat.Pk
