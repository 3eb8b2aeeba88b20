/-
  Texts laid together: GraveFn, GraveFn2, GraveDo, GraveStep, GravNam, RefG, RefG2.
-/
import Derived.Test.YtbfdimibehkbjaaGreatActsWzEtc
import Derived.Test.YtbfdimibehkbjaaGreatCountFnEtc
import Derived.Lib.MinMax
import Derived.Test.YtbfdimibehkbjaaGreatRefMkEtc
namespace Go.Proofs.YtbfdimibehkbjaaGreat.Pk
open Lib (hid)
open Go.RowKit
set_option linter.unusedVariables false
set_option linter.unusedSimpArgs false
set_option maxRecDepth 100000
abbrev Run(c:Cf)(f:FuncId)(args:List Value)(zs:List Int)(d:Nat)(zs':List Int)(v:Value):Prop:=
 ∀(p:Pl) (m:Nat) (w:World),G w p c ⟨zs,m⟩→Calls Tryz.prog f (List.toArray (.pointer (some ⟨p.a,0,none⟩)::args)) w (GP w p c ⟨zs',m+d⟩ v)
section
variable {c:Cf} {zs zs1 zs2 zs3:List Int} {d1 d2 d3 d4:Nat}
theorem wE{r:Int}(C1:Run c 137 [.int .i64 r] zs d1 zs1 (.bool false)):Run c 82 [.int .i64 r] zs d1 zs1 (.bool false):=fun p m w hG=>by
 have HG:=hid hG
 have HC:=hid C1
 clear hG C1
 go_enter Tryz.func82,Tryz.ntmps82
 have HT0:Hid (Touch (inG p) w w):=hid (Touch.refl _ _)
 go_wp2_with fail
 refine(HC.out p _ _ HG.out).mono ?_
 rintro e wm1 ⟨rfl,hG,hT⟩
 have HG1:=hid hG
 have HT1:Hid (Touch (inG p) _ wm1):=hid (HT0.out.trans hT)
 clear hG hT
 go_wp2_with fail
 go_ret
 exact⟨rfl,HG1.out,HT1.out⟩
set_option maxHeartbeats 1000000 in
theorem zN{h np nd L:Nat}{b2:Bool}{P:Int}(hm:c.May)(hh:h<c.N)(C1:Run c 137 [.int .i64 ((h:Int)+1)] zs d1 zs1 (.bool true))(C2:Run c 138 [.int .i64 (h:Int)] zs1 d2 zs2 (.bool b2))
  (h14:nth zs2 14=(h:Int)+1) (C3:Run c 97 [.int .i64 ((h:Int)+1)] (zs2.set 14 0) d3 (zs2.set 14 0) (.tuple #[.int .i64 (np:Int),.int .i64 (nd:Int),.int .i64 0]))
  (C4:Run c 139 [.int .i64 ((h:Int)+1)] (zs2.set 14 0) d4 (zs2.set 14 0) (.int .i64 (1+(L:Int)))) (hnp:np≤100000) (hL:L≤1000)
  (C5:Run c 94 [.int .i64 1,.int .i64 (h:Int)] (((zs2.set 14 0).set (adr c h 6) np).set (adr c h 7) L) 6 (jm c 1 h (((zs2.set 14 0).set (adr c h 6) np).set (adr c h 7) L)) (.bool true))
  (h6:nth (jm c 1 h (((zs2.set 14 0).set (adr c h 6) np).set (adr c h 7) L)) 6=P) (hP0:0≤P) (hP1:P≤4294900000):
  Run c 82 [.int .i64 ((h:Int)+1)] zs (d1+d2+2+d3+d4+10) ((jm c 1 h (((zs2.set 14 0).set (adr c h 6) np).set (adr c h 7) L)).set 6 (P+(1+(L:Int)))) (.bool true):=fun p m w hG=>by
 have hw:=hm.w
 have hn:=hm.n
 have e1:IntKind.i64.wrap ((h:Int)+1-1)=(h:Int):=by rw[IntWalk.i64_in _ (by omega)];omega
 have e1b:IntKind.i64.wrap (h:Int)=(h:Int):=IntWalk.i64_in _ (by omega)
 have e3b:IntKind.i64.wrap (L:Int)=(L:Int):=IntWalk.i64_in _ (by omega)
 have e2:IntKind.u32.wrap (np:Int)=(np:Int):=IntWalk.u32_in _ (by omega)
 have e3:IntKind.i64.wrap (1+(L:Int)-1)=(L:Int):=by rw[IntWalk.i64_in _ (by omega)];omega
 have e4:max (L:Int) 0=(L:Int):=by omega
 have e5:IntKind.u32.wrap (L:Int)=(L:Int):=IntWalk.u32_in _ (by omega)
 have e6:IntKind.i64.wrap (P+(1+(L:Int)))=P+(1+(L:Int)):=IntWalk.i64_in _ (by omega)
 have HV6:Hid (6<c.W):=hid (by omega)
 have HV7:Hid (7<c.W):=hid (by omega)
 have HN0:Hid ((0:Int)≤np):=hid (by omega)
 have HN1:Hid ((np:Int)≤4294967295):=hid (by omega)
 have HL0:Hid ((0:Int)≤L):=hid (by omega)
 have HL1:Hid ((L:Int)≤4294967295):=hid (by omega)
 have HP0:Hid (0≤P+(1+(L:Int))):=hid (by omega)
 have HP1:Hid (P+(1+(L:Int))≤4294967295):=hid (by omega)
 have HG:=hid hG
 have HH:=hid hh
 have HC1:=hid C1
 have HC2:=hid C2
 have HC3:=hid C3
 have HC4:=hid C4
 have HC5:=hid C5
 have H14:=hid h14
 have H6:=hid h6
 clear hG C1 C2 C3 C4 C5 h14 h6 hh hm hw hn hP0 hP1 hL hnp
 go_enter Tryz.func82,Tryz.ntmps82
 have HT0:Hid (Touch (inG p) w w):=hid (Touch.refl _ _)
 go_wp2_with fail
 refine(HC1.out p _ _ HG.out).mono ?_
 rintro e wm1 ⟨rfl,hG,hT⟩
 have HG1:=hid hG
 have HT1:Hid (Touch (inG p) _ wm1):=hid (HT0.out.trans hT)
 clear hG hT
 go_wp2_with fail
 refine(HC2.out p _ _ HG1.out).mono ?_
 rintro e wm2 ⟨rfl,hG,hT⟩
 have HG2:=hid hG
 have HT2:Hid (Touch (inG p) _ wm2):=hid (HT1.out.trans hT)
 clear hG hT
 go_wp2_with fail
 refine(iN p c _ 14 _ _ _ HG2.out (by omega) rfl H14.out).mono ?_
 rintro e wm3 ⟨rfl,hG,hT⟩
 have HG3:=hid hG
 have HT3:Hid (Touch (inG p) _ wm3):=hid (HT2.out.trans hT)
 clear hG hT
 go_wp2_with fail
 refine(aN p c _ 14 _ 0 _ HG3.out (by omega) rfl (by omega) (by omega)).mono ?_
 rintro e wm4 ⟨rfl,hG,hT⟩
 have HG4:=hid hG
 have HT4:Hid (Touch (inG p) _ wm4):=hid (HT3.out.trans hT)
 clear hG hT
 go_wp2_with fail
 refine(HC3.out p _ _ HG4.out).mono ?_
 rintro e wm5 ⟨rfl,hG,hT⟩
 have HG5:=hid hG
 have HT5:Hid (Touch (inG p) _ wm5):=hid (HT4.out.trans hT)
 clear hG hT
 go_wp2_with fail
 refine(HC4.out p _ _ HG5.out).mono ?_
 rintro e wm6 ⟨rfl,hG,hT⟩
 have HG6:=hid hG
 have HT6:Hid (Touch (inG p) _ wm6):=hid (HT5.out.trans hT)
 clear hG hT
 go_wp2_with fail
 refine(aJ p c _ h 6 _ _ _ _ HG6.out HH.out HV6.out rfl rfl HN0.out HN1.out).mono ?_
 rintro e wm7 ⟨rfl,hG,hT⟩
 have HG7:=hid hG
 have HT7:Hid (Touch (inG p) _ wm7):=hid (HT6.out.trans hT)
 clear hG hT
 go_wp2_with fail
 refine(aJ p c _ h 7 _ _ _ _ HG7.out HH.out HV7.out rfl rfl HL0.out HL1.out).mono ?_
 rintro e wm8 ⟨rfl,hG,hT⟩
 have HG8:=hid hG
 have HT8:Hid (Touch (inG p) _ wm8):=hid (HT7.out.trans hT)
 clear hG hT
 go_wp2_with fail
 refine(HC5.out p _ _ HG8.out).mono ?_
 rintro e wm9 ⟨rfl,hG,hT⟩
 have HG9:=hid hG
 have HT9:Hid (Touch (inG p) _ wm9):=hid (HT8.out.trans hT)
 clear hG hT
 go_wp2_with fail
 refine(iN p c _ 6 _ _ _ HG9.out (by omega) rfl H6.out).mono ?_
 rintro e wm10 ⟨rfl,hG,hT⟩
 have HG10:=hid hG
 have HT10:Hid (Touch (inG p) _ wm10):=hid (HT9.out.trans hT)
 clear hG hT
 go_wp2_with fail
 refine(aN p c _ 6 _ _ _ HG10.out (by omega) rfl HP0.out HP1.out).mono ?_
 rintro e wm11 ⟨rfl,hG,hT⟩
 have HG11:=hid hG
 have HT11:Hid (Touch (inG p) _ wm11):=hid (HT10.out.trans hT)
 clear hG hT
 go_wp2_with fail
 go_ret
 exact⟨rfl,HG11.out.iO rfl (by dsimp only[St.got,St.set];omega),HT11.out⟩
set_option maxHeartbeats 1000000 in
theorem zM{h np nd L:Nat}{b2:Bool}{P x:Int}(hm:c.May)(hh:h<c.N)(C1:Run c 137 [.int .i64 ((h:Int)+1)] zs d1 zs1 (.bool true))(C2:Run c 138 [.int .i64 (h:Int)] zs1 d2 zs2 (.bool b2))
  (h14:nth zs2 14=x) (hx:x≠(h:Int)+1) (C3:Run c 97 [.int .i64 ((h:Int)+1)] zs2 d3 zs2 (.tuple #[.int .i64 (np:Int),.int .i64 (nd:Int),.int .i64 0]))
  (C4:Run c 139 [.int .i64 ((h:Int)+1)] zs2 d4 zs2 (.int .i64 (1+(L:Int)))) (hnp:np≤100000) (hL:L≤1000)
  (C5:Run c 94 [.int .i64 1,.int .i64 (h:Int)] ((zs2.set (adr c h 6) np).set (adr c h 7) L) 6 (jm c 1 h ((zs2.set (adr c h 6) np).set (adr c h 7) L)) (.bool true))
  (h6:nth (jm c 1 h ((zs2.set (adr c h 6) np).set (adr c h 7) L)) 6=P) (hP0:0≤P) (hP1:P≤4294900000):
  Run c 82 [.int .i64 ((h:Int)+1)] zs (d1+d2+1+d3+d4+10) ((jm c 1 h ((zs2.set (adr c h 6) np).set (adr c h 7) L)).set 6 (P+(1+(L:Int)))) (.bool true):=fun p m w hG=>by
 have hw:=hm.w
 have hn:=hm.n
 have e1:IntKind.i64.wrap ((h:Int)+1-1)=(h:Int):=by rw[IntWalk.i64_in _ (by omega)];omega
 have e1b:IntKind.i64.wrap (h:Int)=(h:Int):=IntWalk.i64_in _ (by omega)
 have e3b:IntKind.i64.wrap (L:Int)=(L:Int):=IntWalk.i64_in _ (by omega)
 have e2:IntKind.u32.wrap (np:Int)=(np:Int):=IntWalk.u32_in _ (by omega)
 have e3:IntKind.i64.wrap (1+(L:Int)-1)=(L:Int):=by rw[IntWalk.i64_in _ (by omega)];omega
 have e4:max (L:Int) 0=(L:Int):=by omega
 have e5:IntKind.u32.wrap (L:Int)=(L:Int):=IntWalk.u32_in _ (by omega)
 have e6:IntKind.i64.wrap (P+(1+(L:Int)))=P+(1+(L:Int)):=IntWalk.i64_in _ (by omega)
 have ex:(x==(h:Int)+1)=false:=fB hx
 have HV6:Hid (6<c.W):=hid (by omega)
 have HV7:Hid (7<c.W):=hid (by omega)
 have HN0:Hid ((0:Int)≤np):=hid (by omega)
 have HN1:Hid ((np:Int)≤4294967295):=hid (by omega)
 have HL0:Hid ((0:Int)≤L):=hid (by omega)
 have HL1:Hid ((L:Int)≤4294967295):=hid (by omega)
 have HP0:Hid (0≤P+(1+(L:Int))):=hid (by omega)
 have HP1:Hid (P+(1+(L:Int))≤4294967295):=hid (by omega)
 have HG:=hid hG
 have HH:=hid hh
 have HC1:=hid C1
 have HC2:=hid C2
 have HC3:=hid C3
 have HC4:=hid C4
 have HC5:=hid C5
 have H14:=hid h14
 have H6:=hid h6
 clear hG C1 C2 C3 C4 C5 h14 h6 hh hm hw hn hP0 hP1 hL hnp hx
 go_enter Tryz.func82,Tryz.ntmps82
 have HT0:Hid (Touch (inG p) w w):=hid (Touch.refl _ _)
 go_wp2_with fail
 refine(HC1.out p _ _ HG.out).mono ?_
 rintro e wm1 ⟨rfl,hG,hT⟩
 have HG1:=hid hG
 have HT1:Hid (Touch (inG p) _ wm1):=hid (HT0.out.trans hT)
 clear hG hT
 go_wp2_with fail
 refine(HC2.out p _ _ HG1.out).mono ?_
 rintro e wm2 ⟨rfl,hG,hT⟩
 have HG2:=hid hG
 have HT2:Hid (Touch (inG p) _ wm2):=hid (HT1.out.trans hT)
 clear hG hT
 go_wp2_with fail
 refine(iN p c _ 14 _ _ _ HG2.out (by omega) rfl H14.out).mono ?_
 rintro e wm3 ⟨rfl,hG,hT⟩
 have HG3:=hid hG
 have HT3:Hid (Touch (inG p) _ wm3):=hid (HT2.out.trans hT)
 clear hG hT
 go_wp2_with fail
 refine(HC3.out p _ _ HG3.out).mono ?_
 rintro e wm4 ⟨rfl,hG,hT⟩
 have HG4:=hid hG
 have HT4:Hid (Touch (inG p) _ wm4):=hid (HT3.out.trans hT)
 clear hG hT
 go_wp2_with fail
 refine(HC4.out p _ _ HG4.out).mono ?_
 rintro e wm5 ⟨rfl,hG,hT⟩
 have HG5:=hid hG
 have HT5:Hid (Touch (inG p) _ wm5):=hid (HT4.out.trans hT)
 clear hG hT
 go_wp2_with fail
 refine(aJ p c _ h 6 _ _ _ _ HG5.out HH.out HV6.out rfl rfl HN0.out HN1.out).mono ?_
 rintro e wm6 ⟨rfl,hG,hT⟩
 have HG6:=hid hG
 have HT6:Hid (Touch (inG p) _ wm6):=hid (HT5.out.trans hT)
 clear hG hT
 go_wp2_with fail
 refine(aJ p c _ h 7 _ _ _ _ HG6.out HH.out HV7.out rfl rfl HL0.out HL1.out).mono ?_
 rintro e wm7 ⟨rfl,hG,hT⟩
 have HG7:=hid hG
 have HT7:Hid (Touch (inG p) _ wm7):=hid (HT6.out.trans hT)
 clear hG hT
 go_wp2_with fail
 refine(HC5.out p _ _ HG7.out).mono ?_
 rintro e wm8 ⟨rfl,hG,hT⟩
 have HG8:=hid hG
 have HT8:Hid (Touch (inG p) _ wm8):=hid (HT7.out.trans hT)
 clear hG hT
 go_wp2_with fail
 refine(iN p c _ 6 _ _ _ HG8.out (by omega) rfl H6.out).mono ?_
 rintro e wm9 ⟨rfl,hG,hT⟩
 have HG9:=hid hG
 have HT9:Hid (Touch (inG p) _ wm9):=hid (HT8.out.trans hT)
 clear hG hT
 go_wp2_with fail
 refine(aN p c _ 6 _ _ _ HG9.out (by omega) rfl HP0.out HP1.out).mono ?_
 rintro e wm10 ⟨rfl,hG,hT⟩
 have HG10:=hid hG
 have HT10:Hid (Touch (inG p) _ wm10):=hid (HT9.out.trans hT)
 clear hG hT
 go_wp2_with fail
 go_ret
 exact⟨rfl,HG10.out.iO rfl (by dsimp only[St.got,St.set];omega),HT10.out⟩
theorem xS{r n:Int}(hn:n≠0)(C1:Run c 81 [.int .i64 r] zs d1 zs (.int .i64 n)):Run c 19 [.int .i64 r] zs d1 zs (.bool false):=fun p m w hG=>by
 have hb:(n==0)=false:=fB hn
 have HG:=hid hG
 have HC:=hid C1
 clear hG C1 hn
 go_enter Tryz.func19,Tryz.ntmps19
 have HT0:Hid (Touch (inG p) w w):=hid (Touch.refl _ _)
 go_wp2_with fail
 refine(HC.out p _ _ HG.out).mono ?_
 rintro e wm1 ⟨rfl,hG,hT⟩
 have HG1:=hid hG
 have HT1:Hid (Touch (inG p) _ wm1):=hid (HT0.out.trans hT)
 clear hG hT
 go_wp2_with fail
 go_ret
 exact⟨rfl,HG1.out,HT1.out⟩
theorem ME{r:Int}{b:Bool}(C1:Run c 81 [.int .i64 r] zs d1 zs (.int .i64 0))(C2:Run c 82 [.int .i64 r] zs d2 zs2 (.bool b)):Run c 19 [.int .i64 r] zs (d1+d2) zs2 (.bool b):=fun p m w hG=>by
 have HG:=hid hG
 have HC:=hid C1
 have HC2:=hid C2
 clear hG C1 C2
 go_enter Tryz.func19,Tryz.ntmps19
 have HT0:Hid (Touch (inG p) w w):=hid (Touch.refl _ _)
 go_wp2_with fail
 refine(HC.out p _ _ HG.out).mono ?_
 rintro e wm1 ⟨rfl,hG,hT⟩
 have HG1:=hid hG
 have HT1:Hid (Touch (inG p) _ wm1):=hid (HT0.out.trans hT)
 clear hG hT
 go_wp2_with fail
 refine(HC2.out p _ _ HG1.out).mono ?_
 rintro e wm2 ⟨rfl,hG,hT⟩
 have HG2:=hid hG
 have HT2:Hid (Touch (inG p) _ wm2):=hid (HT1.out.trans hT)
 clear hG hT
 go_wp2_with fail
 go_ret
 exact⟨rfl,HG2.out.iO rfl (by dsimp only;omega),HT2.out⟩
theorem xW{r i x:Int}(C1:Run c 76 [.int .i64 r,.int .i64 i] zs d1 zs (.tuple #[.int .i64 x,.int .i64 0]))(C2:Run c 77 [.int .i64 r,.int .i64 i,.int .i64 0] zs d2 zs2 (.int .i64 0))(C3:Run c 81 [.int .i64 x] zs2 d3 zs2 (.int .i64 0)):
  Run c 169 [.int .i64 r,.int .i64 i] zs (d1+d2+d3) zs2 (.tuple #[]):=fun p m w hG=>by
 have HG:=hid hG
 have HC:=hid C1
 have HC2:=hid C2
 have HC3:=hid C3
 clear hG C1 C2 C3
 go_enter Tryz.func169,Tryz.ntmps169
 have HT0:Hid (Touch (inG p) w w):=hid (Touch.refl _ _)
 go_wp2_with fail
 refine(HC.out p _ _ HG.out).mono ?_
 rintro e wm1 ⟨rfl,hG,hT⟩
 have HG1:=hid hG
 have HT1:Hid (Touch (inG p) _ wm1):=hid (HT0.out.trans hT)
 clear hG hT
 go_wp2_with fail
 refine(HC2.out p _ _ HG1.out).mono ?_
 rintro e wm2 ⟨rfl,hG,hT⟩
 have HG2:=hid hG
 have HT2:Hid (Touch (inG p) _ wm2):=hid (HT1.out.trans hT)
 clear hG hT
 go_wp2_with fail
 refine(HC3.out p _ _ HG2.out).mono ?_
 rintro e wm3 ⟨rfl,hG,hT⟩
 have HG3:=hid hG
 have HT3:Hid (Touch (inG p) _ wm3):=hid (HT2.out.trans hT)
 clear hG hT
 go_wp2_with fail
 go_end0
 exact⟨rfl,HG3.out.iO rfl (by dsimp only;omega),HT3.out⟩
def vS(c:Cf)(x:Int)(cb:Bool)(zs:List Int)(d:Nat)(zs':List Int):Prop:=(cb=true∧∃lb:Bool,Run c 205 [.int .i64 x] zs d zs' (.bool lb))∨(cb=false∧d=0∧zs'=zs)
theorem xV{r i x n k:Int}{cb:Bool}{d5 d6:Nat}{zs4:List Int}(C1:Run c 76 [.int .i64 r,.int .i64 i] zs d1 zs (.tuple #[.int .i64 x,.int .i64 0]))(C2:Run c 77 [.int .i64 r,.int .i64 i,.int .i64 0] zs d2 zs2 (.int .i64 0))(C3:Run c 81 [.int .i64 x] zs2 d3 zs2 (.int .i64 n))(hn:n≠0)(C4:Run c 44 [.int .i64 r,.int .i64 i] zs2 d4 zs1 (.bool cb))(C5:vS c x cb zs1 d5 zs3)(C6:Run c 148 [.int .i64 x] zs3 d6 zs4 (.tuple #[.int .i64 k,.bool true]))(hk:k≠0):
  Run c 169 [.int .i64 r,.int .i64 i] zs (d1+d2+d3+d4+d5+d6) zs4 (.tuple #[]):=fun p m w hG=>by
 have hb:(n==0)=false:=fB hn
 have hb2:(k==0)=false:=fB hk
 have HG:=hid hG
 have HC:=hid C1
 have HC2:=hid C2
 have HC3:=hid C3
 have HC4:=hid C4
 have HC6:=hid C6
 clear hG C1 C2 C3 C4 C6 hn hk
 rcases C5 with⟨rfl,lb,C5⟩|⟨rfl,rfl,rfl⟩
 ·have HC5:=hid C5
  clear C5
  go_enter Tryz.func169,Tryz.ntmps169
  have HT0:Hid (Touch (inG p) w w):=hid (Touch.refl _ _)
  go_wp2_with fail
  refine(HC.out p _ _ HG.out).mono ?_
  rintro e wm1 ⟨rfl,hG,hT⟩
  have HG1:=hid hG
  have HT1:Hid (Touch (inG p) _ wm1):=hid (HT0.out.trans hT)
  clear hG hT
  go_wp2_with fail
  refine(HC2.out p _ _ HG1.out).mono ?_
  rintro e wm2 ⟨rfl,hG,hT⟩
  have HG2:=hid hG
  have HT2:Hid (Touch (inG p) _ wm2):=hid (HT1.out.trans hT)
  clear hG hT
  go_wp2_with fail
  refine(HC3.out p _ _ HG2.out).mono ?_
  rintro e wm3 ⟨rfl,hG,hT⟩
  have HG3:=hid hG
  have HT3:Hid (Touch (inG p) _ wm3):=hid (HT2.out.trans hT)
  clear hG hT
  go_wp2_with fail
  refine(HC4.out p _ _ HG3.out).mono ?_
  rintro e wm4 ⟨rfl,hG,hT⟩
  have HG4:=hid hG
  have HT4:Hid (Touch (inG p) _ wm4):=hid (HT3.out.trans hT)
  clear hG hT
  go_wp2_with fail
  refine(HC5.out p _ _ HG4.out).mono ?_
  rintro e wm5 ⟨rfl,hG,hT⟩
  have HG5:=hid hG
  have HT5:Hid (Touch (inG p) _ wm5):=hid (HT4.out.trans hT)
  clear hG hT
  go_wp2_with fail
  refine(HC6.out p _ _ HG5.out).mono ?_
  rintro e wm6 ⟨rfl,hG,hT⟩
  have HG6:=hid hG
  have HT6:Hid (Touch (inG p) _ wm6):=hid (HT5.out.trans hT)
  clear hG hT
  go_wp2_with fail
  go_end0
  exact⟨rfl,HG6.out.iO rfl (by dsimp only;omega),HT6.out⟩
 ·go_enter Tryz.func169,Tryz.ntmps169
  have HT0:Hid (Touch (inG p) w w):=hid (Touch.refl _ _)
  go_wp2_with fail
  refine(HC.out p _ _ HG.out).mono ?_
  rintro e wm1 ⟨rfl,hG,hT⟩
  have HG1:=hid hG
  have HT1:Hid (Touch (inG p) _ wm1):=hid (HT0.out.trans hT)
  clear hG hT
  go_wp2_with fail
  refine(HC2.out p _ _ HG1.out).mono ?_
  rintro e wm2 ⟨rfl,hG,hT⟩
  have HG2:=hid hG
  have HT2:Hid (Touch (inG p) _ wm2):=hid (HT1.out.trans hT)
  clear hG hT
  go_wp2_with fail
  refine(HC3.out p _ _ HG2.out).mono ?_
  rintro e wm3 ⟨rfl,hG,hT⟩
  have HG3:=hid hG
  have HT3:Hid (Touch (inG p) _ wm3):=hid (HT2.out.trans hT)
  clear hG hT
  go_wp2_with fail
  refine(HC4.out p _ _ HG3.out).mono ?_
  rintro e wm4 ⟨rfl,hG,hT⟩
  have HG4:=hid hG
  have HT4:Hid (Touch (inG p) _ wm4):=hid (HT3.out.trans hT)
  clear hG hT
  go_wp2_with fail
  refine(HC6.out p _ _ HG4.out).mono ?_
  rintro e wm5 ⟨rfl,hG,hT⟩
  have HG5:=hid hG
  have HT5:Hid (Touch (inG p) _ wm5):=hid (HT4.out.trans hT)
  clear hG hT
  go_wp2_with fail
  go_end0
  exact⟨rfl,HG5.out.iO rfl (by dsimp only;omega),HT5.out⟩
theorem xU{r i x n:Int}{cb bb:Bool}{d5 d6 d7:Nat}{zs4 zs5:List Int}(C1:Run c 76 [.int .i64 r,.int .i64 i] zs d1 zs (.tuple #[.int .i64 x,.int .i64 0]))(C2:Run c 77 [.int .i64 r,.int .i64 i,.int .i64 0] zs d2 zs2 (.int .i64 0))(C3:Run c 81 [.int .i64 x] zs2 d3 zs2 (.int .i64 n))(hn:n≠0)(C4:Run c 44 [.int .i64 r,.int .i64 i] zs2 d4 zs1 (.bool cb))(C5:vS c x cb zs1 d5 zs3)(C6:Run c 148 [.int .i64 x] zs3 d6 zs4 (.tuple #[.int .i64 0,.bool true]))(C7:Run c 82 [.int .i64 x] zs4 d7 zs5 (.bool bb)):
  Run c 169 [.int .i64 r,.int .i64 i] zs (d1+d2+d3+d4+d5+d6+d7) zs5 (.tuple #[]):=fun p m w hG=>by
 have hb:(n==0)=false:=fB hn
 have HG:=hid hG
 have HC:=hid C1
 have HC2:=hid C2
 have HC3:=hid C3
 have HC4:=hid C4
 have HC6:=hid C6
 have HC7:=hid C7
 clear hG C1 C2 C3 C4 C6 C7 hn
 rcases C5 with⟨rfl,lb,C5⟩|⟨rfl,rfl,rfl⟩
 ·have HC5:=hid C5
  clear C5
  go_enter Tryz.func169,Tryz.ntmps169
  have HT0:Hid (Touch (inG p) w w):=hid (Touch.refl _ _)
  go_wp2_with fail
  refine(HC.out p _ _ HG.out).mono ?_
  rintro e wm1 ⟨rfl,hG,hT⟩
  have HG1:=hid hG
  have HT1:Hid (Touch (inG p) _ wm1):=hid (HT0.out.trans hT)
  clear hG hT
  go_wp2_with fail
  refine(HC2.out p _ _ HG1.out).mono ?_
  rintro e wm2 ⟨rfl,hG,hT⟩
  have HG2:=hid hG
  have HT2:Hid (Touch (inG p) _ wm2):=hid (HT1.out.trans hT)
  clear hG hT
  go_wp2_with fail
  refine(HC3.out p _ _ HG2.out).mono ?_
  rintro e wm3 ⟨rfl,hG,hT⟩
  have HG3:=hid hG
  have HT3:Hid (Touch (inG p) _ wm3):=hid (HT2.out.trans hT)
  clear hG hT
  go_wp2_with fail
  refine(HC4.out p _ _ HG3.out).mono ?_
  rintro e wm4 ⟨rfl,hG,hT⟩
  have HG4:=hid hG
  have HT4:Hid (Touch (inG p) _ wm4):=hid (HT3.out.trans hT)
  clear hG hT
  go_wp2_with fail
  refine(HC5.out p _ _ HG4.out).mono ?_
  rintro e wm5 ⟨rfl,hG,hT⟩
  have HG5:=hid hG
  have HT5:Hid (Touch (inG p) _ wm5):=hid (HT4.out.trans hT)
  clear hG hT
  go_wp2_with fail
  refine(HC6.out p _ _ HG5.out).mono ?_
  rintro e wm6 ⟨rfl,hG,hT⟩
  have HG6:=hid hG
  have HT6:Hid (Touch (inG p) _ wm6):=hid (HT5.out.trans hT)
  clear hG hT
  go_wp2_with fail
  refine(HC7.out p _ _ HG6.out).mono ?_
  rintro e wm7 ⟨rfl,hG,hT⟩
  have HG7:=hid hG
  have HT7:Hid (Touch (inG p) _ wm7):=hid (HT6.out.trans hT)
  clear hG hT
  go_wp2_with fail
  go_end0
  exact⟨rfl,HG7.out.iO rfl (by dsimp only;omega),HT7.out⟩
 ·go_enter Tryz.func169,Tryz.ntmps169
  have HT0:Hid (Touch (inG p) w w):=hid (Touch.refl _ _)
  go_wp2_with fail
  refine(HC.out p _ _ HG.out).mono ?_
  rintro e wm1 ⟨rfl,hG,hT⟩
  have HG1:=hid hG
  have HT1:Hid (Touch (inG p) _ wm1):=hid (HT0.out.trans hT)
  clear hG hT
  go_wp2_with fail
  refine(HC2.out p _ _ HG1.out).mono ?_
  rintro e wm2 ⟨rfl,hG,hT⟩
  have HG2:=hid hG
  have HT2:Hid (Touch (inG p) _ wm2):=hid (HT1.out.trans hT)
  clear hG hT
  go_wp2_with fail
  refine(HC3.out p _ _ HG2.out).mono ?_
  rintro e wm3 ⟨rfl,hG,hT⟩
  have HG3:=hid hG
  have HT3:Hid (Touch (inG p) _ wm3):=hid (HT2.out.trans hT)
  clear hG hT
  go_wp2_with fail
  refine(HC4.out p _ _ HG3.out).mono ?_
  rintro e wm4 ⟨rfl,hG,hT⟩
  have HG4:=hid hG
  have HT4:Hid (Touch (inG p) _ wm4):=hid (HT3.out.trans hT)
  clear hG hT
  go_wp2_with fail
  refine(HC6.out p _ _ HG4.out).mono ?_
  rintro e wm5 ⟨rfl,hG,hT⟩
  have HG5:=hid hG
  have HT5:Hid (Touch (inG p) _ wm5):=hid (HT4.out.trans hT)
  clear hG hT
  go_wp2_with fail
  refine(HC7.out p _ _ HG5.out).mono ?_
  rintro e wm6 ⟨rfl,hG,hT⟩
  have HG6:=hid hG
  have HT6:Hid (Touch (inG p) _ wm6):=hid (HT5.out.trans hT)
  clear hG hT
  go_wp2_with fail
  go_end0
  exact⟨rfl,HG6.out.iO rfl (by dsimp only;omega),HT6.out⟩
end
def jP(W:Nat)(l:Int):Int:=(if 0<l then l-1 else 0)*((W:Int)-1)
theorem wD(p:Pl)(c:Cf)(s:St)(l:Int)(w:World)(hG:G w p c s)(h0:0≤l)(h1:l≤1000):
  Calls Tryz.prog 168 #[.pointer (some ⟨p.a,0,none⟩),.int .i64 l] w fun e w'=>e=.returned (.int .i64 (jP c.W l))∧Below w.heap.size w w':=by
 have hw:=hG.may.w
 have e1:IntKind.i64.wrap (l-1)=l-1:=IntWalk.i64_in _ (by omega)
 obtain⟨q,hq⟩:∃q,q=(if 0<l then l-1 else 0):=⟨_,rfl⟩
 have e2:max (l-1) 0=q:=by rw[hq];split<;>omega
 have hq0:0≤q∧q≤1000:=by rw[hq];split<;>omega
 have e3:IntKind.i64.wrap ((c.W:Int)-1)=(c.W:Int)-1:=IntWalk.i64_in _ (by omega)
 have hb:0≤q*((c.W:Int)-1)∧q*((c.W:Int)-1)≤1000*256:=⟨Int.mul_nonneg hq0.1 (by omega),Int.mul_le_mul hq0.2 (by omega) (by omega) (by omega)⟩
 have e4:IntKind.i64.wrap (q*((c.W:Int)-1))=q*((c.W:Int)-1):=IntWalk.i64_in _ (by omega)
 have ea:jP c.W l=q*((c.W:Int)-1):=by unfold jP;rw[hq]
 have HE:=hid ea
 have HG:=hid hG
 have hf:=pu (c.N:Int) (c.W:Int) (c.R:Int) (c.K:Int)
 clear hG ea hq h0 h1 hq0 hb hw
 go_enter Tryz.func168,Tryz.ntmps168
 go_wp2_with fail
 refine(fT p c s _ HG.out).mono ?_
 rintro e w1 ⟨rfl,hb⟩
 have HB:=hid hb
 clear hb
 go_wp2_with fail
 go_ret
 exact⟨by rw[HE.out];rfl,HB.out⟩
section
variable {c:Cf} {zs zs1 zs2 zs3:List Int} {d1 d2 d3 d4:Nat}
set_option maxHeartbeats 1000000 in
theorem zO(C1:Run c 93 [.int .i64 1] zs d1 zs (.tuple #[.int .i64 0,.bool false])):Run c 113 [] zs d1 zs (.tuple #[.bool false,.bool false]):=fun p m w hG=>by
 have HG:=hid hG
 have HC:=hid C1
 clear hG C1
 go_enter Tryz.func113,Tryz.ntmps113
 have HT0:Hid (Touch (inG p) w w):=hid (Touch.refl _ _)
 go_wp2_with fail
 refine(HC.out p _ _ HG.out).mono ?_
 rintro e wm1 ⟨rfl,hG,hT⟩
 have HG1:=hid hG
 have HT1:Hid (Touch (inG p) _ wm1):=hid (HT0.out.trans hT)
 clear hG hT
 go_wp2_with fail
 go_ret2
 exact⟨rfl,HG1.out,HT1.out⟩
set_option maxHeartbeats 1000000 in
theorem xX{h:Nat}{f l:Int}(hm:c.May)(hh:h<c.N)(C1:Run c 93 [.int .i64 1] zs d1 zs (.tuple #[.int .i64 (h:Int),.bool true]))(h6:nth zs (adr c h 6)=f)(h7:nth zs (adr c h 7)=l)
  (hf0:0<f) (hf1:f≤1000000) (hl0:0≤l) (hl1:l≤1000) (ha:jP c.W l<f) (C2:Run c 169 [.int .i64 ((h:Int)+1),.int .i64 (f-1)] zs d2 zs2 (.tuple #[])):
  Run c 113 [] zs (d1+2+d2+1) (zs2.set (adr c h 6) (f-1)) (.tuple #[.bool false,.bool true]):=fun p m w hG=>by
 have hw:=hm.w
 have hn:=hm.n
 have HV6:Hid (6<c.W):=hid (by omega)
 have HV7:Hid (7<c.W):=hid (by omega)
 have e1:IntKind.i64.wrap f=f:=IntWalk.i64_in _ (by omega)
 have e2:IntKind.i64.wrap l=l:=IntWalk.i64_in _ (by omega)
 have e3:IntKind.i64.wrap ((h:Int)+1)=(h:Int)+1:=IntWalk.i64_in _ (by omega)
 have e4:IntKind.i64.wrap (f-1)=f-1:=IntWalk.i64_in _ (by omega)
 have e5:IntKind.u32.wrap (f-1)=f-1:=IntWalk.u32_in _ (by omega)
 have HF0:Hid (0≤f-1):=hid (by omega)
 have HF1:Hid (f-1≤4294967295):=hid (by omega)
 have HL0:=hid hl0
 have HL1:=hid hl1
 have H6:=hid h6
 have H7:=hid h7
 have HH:=hid hh
 have HG:=hid hG
 have HC:=hid C1
 have HC2:=hid C2
 clear hG C1 C2 h6 h7 hh hm hw hn hf0 hf1 hl0 hl1
 go_enter Tryz.func113,Tryz.ntmps113
 have HT0:Hid (Touch (inG p) w w):=hid (Touch.refl _ _)
 go_wp2_with fail
 refine(HC.out p _ _ HG.out).mono ?_
 rintro e wm1 ⟨rfl,hG,hT⟩
 have HG1:=hid hG
 have HT1:Hid (Touch (inG p) _ wm1):=hid (HT0.out.trans hT)
 clear hG hT
 go_wp2_with fail
 refine(wordW p c _ h 6 _ _ _ _ HG1.out HH.out HV6.out rfl rfl H6.out).mono ?_
 rintro e wm2 ⟨rfl,hG,hT⟩
 have HG2:=hid hG
 have HT2:Hid (Touch (inG p) _ wm2):=hid (HT1.out.trans hT)
 clear hG hT
 go_wp2_with fail
 refine(wordW p c _ h 7 _ _ _ _ HG2.out HH.out HV7.out rfl rfl H7.out).mono ?_
 rintro e wm3 ⟨rfl,hG,hT⟩
 have HG3:=hid hG
 have HT3:Hid (Touch (inG p) _ wm3):=hid (HT2.out.trans hT)
 clear hG hT
 go_wp2_with fail
 refine(wD p c _ l _ HG3.out HL0.out HL1.out).mono ?_
 rintro e wm4 ⟨rfl,hb⟩
 have HG4:=hid (HG3.out.later hb)
 have HT4:Hid (Touch (inG p) _ wm4):=hid (HT3.out.trans (Touch.of_below hb))
 clear hb
 go_wp2_with fail
 refine(HC2.out p _ _ HG4.out).mono ?_
 rintro e wm5 ⟨rfl,hG,hT⟩
 have HG5:=hid hG
 have HT5:Hid (Touch (inG p) _ wm5):=hid (HT4.out.trans hT)
 clear hG hT
 go_wp2_with fail
 refine(aJ p c _ h 6 _ _ _ _ HG5.out HH.out HV6.out rfl rfl HF0.out HF1.out).mono ?_
 rintro e wm6 ⟨rfl,hG,hT⟩
 have HG6:=hid hG
 have HT6:Hid (Touch (inG p) _ wm6):=hid (HT5.out.trans hT)
 clear hG hT
 go_wp2_with fail
 go_ret2
 exact⟨rfl,HG6.out.iO rfl (by dsimp only[St.got,St.set];omega),HT6.out⟩
set_option maxHeartbeats 1000000 in
theorem zP{h:Nat}{f l P:Int}(hm:c.May)(hh:h<c.N)(C1:Run c 93 [.int .i64 1] zs d1 zs (.tuple #[.int .i64 (h:Int),.bool true]))(h6:nth zs (adr c h 6)=f)(h7:nth zs (adr c h 7)=l)
  (hf0:0≤f) (hf1:f≤1000000) (hl0:0<l) (hl1:l≤1000) (ha:¬jP c.W l<f) (C2:Run c 170 [.int .i64 ((h:Int)+1),.int .i64 (l-1)] zs d2 zs2 (.bool true))
  (hP:nth (zs2.set (adr c h 7) (l-1)) 6=P) (hP0:0<P) (hP1:P≤4294967295):
  Run c 113 [] zs (d1+2+d2+3) ((zs2.set (adr c h 7) (l-1)).set 6 (P-1)) (.tuple #[.bool true,.bool true]):=fun p m w hG=>by
 have hw:=hm.w
 have hn:=hm.n
 have HV6:Hid (6<c.W):=hid (by omega)
 have HV7:Hid (7<c.W):=hid (by omega)
 have e1:IntKind.i64.wrap f=f:=IntWalk.i64_in _ (by omega)
 have e2:IntKind.i64.wrap l=l:=IntWalk.i64_in _ (by omega)
 have e3:IntKind.i64.wrap ((h:Int)+1)=(h:Int)+1:=IntWalk.i64_in _ (by omega)
 have e4:IntKind.i64.wrap (l-1)=l-1:=IntWalk.i64_in _ (by omega)
 have e5:IntKind.u32.wrap (l-1)=l-1:=IntWalk.u32_in _ (by omega)
 have e6:IntKind.i64.wrap (P-1)=P-1:=IntWalk.i64_in _ (by omega)
 have HF0:Hid (0≤l-1):=hid (by omega)
 have HF1:Hid (l-1≤4294967295):=hid (by omega)
 have HP0:Hid (0≤P-1):=hid (by omega)
 have HP1:Hid (P-1≤4294967295):=hid (by omega)
 have HL0:Hid (0≤l):=hid (by omega)
 have HL1:=hid hl1
 have H6:=hid h6
 have H7:=hid h7
 have HP:=hid hP
 have HH:=hid hh
 have HG:=hid hG
 have HC:=hid C1
 have HC2:=hid C2
 clear hG C1 C2 h6 h7 hh hm hw hn hf0 hf1 hl1 hP hP0 hP1
 go_enter Tryz.func113,Tryz.ntmps113
 have HT0:Hid (Touch (inG p) w w):=hid (Touch.refl _ _)
 go_wp2_with fail
 refine(HC.out p _ _ HG.out).mono ?_
 rintro e wm1 ⟨rfl,hG,hT⟩
 have HG1:=hid hG
 have HT1:Hid (Touch (inG p) _ wm1):=hid (HT0.out.trans hT)
 clear hG hT
 go_wp2_with fail
 refine(wordW p c _ h 6 _ _ _ _ HG1.out HH.out HV6.out rfl rfl H6.out).mono ?_
 rintro e wm2 ⟨rfl,hG,hT⟩
 have HG2:=hid hG
 have HT2:Hid (Touch (inG p) _ wm2):=hid (HT1.out.trans hT)
 clear hG hT
 go_wp2_with fail
 refine(wordW p c _ h 7 _ _ _ _ HG2.out HH.out HV7.out rfl rfl H7.out).mono ?_
 rintro e wm3 ⟨rfl,hG,hT⟩
 have HG3:=hid hG
 have HT3:Hid (Touch (inG p) _ wm3):=hid (HT2.out.trans hT)
 clear hG hT
 go_wp2_with fail
 refine(wD p c _ l _ HG3.out HL0.out HL1.out).mono ?_
 rintro e wm4 ⟨rfl,hb⟩
 have HG4:=hid (HG3.out.later hb)
 have HT4:Hid (Touch (inG p) _ wm4):=hid (HT3.out.trans (Touch.of_below hb))
 clear hb
 go_wp2_with fail
 refine(HC2.out p _ _ HG4.out).mono ?_
 rintro e wm5 ⟨rfl,hG,hT⟩
 have HG5:=hid hG
 have HT5:Hid (Touch (inG p) _ wm5):=hid (HT4.out.trans hT)
 clear hG hT
 go_wp2_with fail
 refine(aJ p c _ h 7 _ _ _ _ HG5.out HH.out HV7.out rfl rfl HF0.out HF1.out).mono ?_
 rintro e wm6 ⟨rfl,hG,hT⟩
 have HG6:=hid hG
 have HT6:Hid (Touch (inG p) _ wm6):=hid (HT5.out.trans hT)
 clear hG hT
 go_wp2_with fail
 refine(iN p c _ 6 _ _ _ HG6.out (by omega) rfl HP.out).mono ?_
 rintro e wm7 ⟨rfl,hG,hT⟩
 have HG7:=hid hG
 have HT7:Hid (Touch (inG p) _ wm7):=hid (HT6.out.trans hT)
 clear hG hT
 go_wp2_with fail
 refine(aN p c _ 6 _ _ _ HG7.out (by omega) rfl HP0.out HP1.out).mono ?_
 rintro e wm8 ⟨rfl,hG,hT⟩
 have HG8:=hid hG
 have HT8:Hid (Touch (inG p) _ wm8):=hid (HT7.out.trans hT)
 clear hG hT
 go_wp2_with fail
 go_ret2
 exact⟨rfl,HG8.out.iO rfl (by dsimp only[St.got,St.set];omega),HT8.out⟩
set_option maxHeartbeats 1000000 in
theorem BQ{h:Nat}{f P:Int}(hm:c.May)(hh:h<c.N)(C1:Run c 93 [.int .i64 1] zs d1 zs (.tuple #[.int .i64 (h:Int),.bool true]))(h6:nth zs (adr c h 6)=f)(h7:nth zs (adr c h 7)=0)
  (hf0:0≤f) (hf1:f≤1000000) (ha:¬jP c.W 0<f) (C2:Run c 171 [.int .i64 1] zs d2 zs2 (.tuple #[.int .i64 (h:Int),.bool true])) (C3:Run c 172 [.int .i64 ((h:Int)+1)] zs2 d3 zs3 (.bool true))
  (hP:nth zs3 6=P) (hP0:0<P) (hP1:P≤4294967295):
  Run c 113 [] zs (d1+2+d2+d3+2) (zs3.set 6 (P-1)) (.tuple #[.bool true,.bool true]):=fun p m w hG=>by
 have hw:=hm.w
 have hn:=hm.n
 have HV6:Hid (6<c.W):=hid (by omega)
 have HV7:Hid (7<c.W):=hid (by omega)
 have e1:IntKind.i64.wrap f=f:=IntWalk.i64_in _ (by omega)
 have e3:IntKind.i64.wrap ((h:Int)+1)=(h:Int)+1:=IntWalk.i64_in _ (by omega)
 have e6:IntKind.i64.wrap (P-1)=P-1:=IntWalk.i64_in _ (by omega)
 have HP0:Hid (0≤P-1):=hid (by omega)
 have HP1:Hid (P-1≤4294967295):=hid (by omega)
 have H6:=hid h6
 have H7:=hid h7
 have HP:=hid hP
 have HH:=hid hh
 have HG:=hid hG
 have HC:=hid C1
 have HC2:=hid C2
 have HC3:=hid C3
 clear hG C1 C2 C3 h6 h7 hh hm hw hn hf0 hf1 hP hP0 hP1
 go_enter Tryz.func113,Tryz.ntmps113
 have HT0:Hid (Touch (inG p) w w):=hid (Touch.refl _ _)
 go_wp2_with fail
 refine(HC.out p _ _ HG.out).mono ?_
 rintro e wm1 ⟨rfl,hG,hT⟩
 have HG1:=hid hG
 have HT1:Hid (Touch (inG p) _ wm1):=hid (HT0.out.trans hT)
 clear hG hT
 go_wp2_with fail
 refine(wordW p c _ h 6 _ _ _ _ HG1.out HH.out HV6.out rfl rfl H6.out).mono ?_
 rintro e wm2 ⟨rfl,hG,hT⟩
 have HG2:=hid hG
 have HT2:Hid (Touch (inG p) _ wm2):=hid (HT1.out.trans hT)
 clear hG hT
 go_wp2_with fail
 refine(wordW p c _ h 7 _ _ _ _ HG2.out HH.out HV7.out rfl rfl H7.out).mono ?_
 rintro e wm3 ⟨rfl,hG,hT⟩
 have HG3:=hid hG
 have HT3:Hid (Touch (inG p) _ wm3):=hid (HT2.out.trans hT)
 clear hG hT
 go_wp2_with fail
 refine(wD p c _ 0 _ HG3.out (by omega) (by omega)).mono ?_
 rintro e wm4 ⟨rfl,hb⟩
 have HG4:=hid (HG3.out.later hb)
 have HT4:Hid (Touch (inG p) _ wm4):=hid (HT3.out.trans (Touch.of_below hb))
 clear hb
 go_wp2_with fail
 refine(HC2.out p _ _ HG4.out).mono ?_
 rintro e wm5 ⟨rfl,hG,hT⟩
 have HG5:=hid hG
 have HT5:Hid (Touch (inG p) _ wm5):=hid (HT4.out.trans hT)
 clear hG hT
 go_wp2_with fail
 refine(HC3.out p _ _ HG5.out).mono ?_
 rintro e wm6 ⟨rfl,hG,hT⟩
 have HG6:=hid hG
 have HT6:Hid (Touch (inG p) _ wm6):=hid (HT5.out.trans hT)
 clear hG hT
 go_wp2_with fail
 refine(iN p c _ 6 _ _ _ HG6.out (by omega) rfl HP.out).mono ?_
 rintro e wm7 ⟨rfl,hG,hT⟩
 have HG7:=hid hG
 have HT7:Hid (Touch (inG p) _ wm7):=hid (HT6.out.trans hT)
 clear hG hT
 go_wp2_with fail
 refine(aN p c _ 6 _ _ _ HG7.out (by omega) rfl HP0.out HP1.out).mono ?_
 rintro e wm8 ⟨rfl,hG,hT⟩
 have HG8:=hid hG
 have HT8:Hid (Touch (inG p) _ wm8):=hid (HT7.out.trans hT)
 clear hG hT
 go_wp2_with fail
 go_ret2
 exact⟨rfl,HG8.out.iO rfl (by dsimp only[St.got,St.set];omega),HT8.out⟩
end
section
variable {c:Cf} {D D':Wd} {zs zs':List Int} {t:Th} {r:Int}
theorem Ih(hf:D.find r=some t)(hd:t.mr.dead=true):D.kill r=D:=by
 obtain⟨i,hi,ht⟩:=ky hf
 unfold Wd.kill Wd.mark Wd.upd
 rw[AR hi ht,show({t with mr:={t.mr with dead:=true}}:Th)=t by rw[←hd],rZ ht]
theorem aA.sizes(R:aA c zs D)(hz:Wz c zs)(htl:t∈D.live):t.pt.length+t.dt.length≤100000∧t.lv.length≤248:=by
 obtain⟨p,w,hG⟩:=AY hz
 have h1:=Cs (s:=⟨zs,0⟩) hG R.heap (R.bQ htl)
 have h2:=(R.heap.bU t.ob (R.bQ htl)).Im hz.may
 have hw:=hz.may.w
 have e:t.ob.lv.length=t.lv.length:=by unfold Th.ob;simp
 have e1:t.ob.np=t.pt.length:=rfl
 have e2:t.ob.nd=t.dt.length:=rfl
 omega
theorem Oq(hz:Wz c zs)(R:aA c zs D)(hf:D.find r=some t):∃zs' d b,d≤10∧Run c 138 [.int .i64 (t.h:Int)] zs d zs' (.bool b)∧aA c zs' (D.bv t.h):=by
 obtain⟨h1,h2,h3,h4,h5⟩:=R.gy hf
 by_cases hin:t.h∈D.ring
 ·exact⟨_,10,true,by omega,fun p m w hG=>wZ p c ⟨zs,m⟩ t.h D.ring w hG R.ring hin,xB R hz hf hin⟩
 ·have hlt:=R.hlt (ae hf).1
  have e:D.bv t.h=D:=by
   unfold Wd.bv
   rw[List.filter_eq_self.2 (fun x hx=>by simp;exact fun e=>hin (e▸hx))]
  refine⟨zs,_,false,?_,fun p m w hG=>zu p c ⟨zs,m⟩ (t.h:Int) (nth zs (adr c t.h 0)) w hG (pY hz.may hlt) (.inr ⟨ma h2,decide_eq_false (fun h=> ?_)⟩),by rw[e];exact R⟩
  ·have:=iD (aF c (t.h:Int) 0);omega
  ·rw[R.ring.Qj hlt hin] at h
   exact absurd h (by decide)
theorem Kl(hz:Wz c zs)(R:aA c zs D)(hr:In64 r):∃d,d≤2∧Run c 81 [.int .i64 r] zs d zs (.int .i64 (D.cnt r)):=by
 cases hf:D.find r with
 |none=>
  rw[show D.cnt r=0 by unfold Wd.cnt;rw[hf]]
  exact⟨_,by have:=iD (aF c (prev r) 0);omega,fun p m w hG=>JM (s:=⟨zs,m⟩) hG R.heap hr (jh R hf)⟩
 |some t=>
  obtain⟨htl,rfl⟩:=ae hf
  rw[show D.cnt ((t.h:Int)+1)=t.mr.refs by unfold Wd.cnt;rw[hf],←(R.own t htl).w3]
  exact⟨2,by omega,fun p m w hG=>GY (s:=⟨zs,m⟩) (o:=t.ob) hG R.heap (R.bQ htl)⟩
theorem aA.Oc(R:aA c zs D)(hz:Wz c zs)(htl:t∈D.live):0≤t.mr.refs∧t.mr.refs≤4294967295:=by
 rw[←(R.own t htl).w3]
 exact hz.wf _
theorem FP(hz:Wz c zs)(R:aA c zs D)(hf:D.find r=some t)(h0:t.mr.refs≠0):∃zs',Run c 148 [.int .i64 r] zs 3 zs' (.tuple #[.int .i64 (t.mr.refs-1),.bool true])∧aA c zs' (D.down r):=by
 obtain⟨htl,rfl⟩:=ae hf
 have hb:=R.Oc hz htl
 have e3:=(R.own t htl).w3
 refine⟨zs.set (adr c t.h 3) (t.mr.refs-1),fun p m w hG=>Mh (qi (s:=⟨zs,m⟩) (o:=t.ob) (-1) (t.mr.refs-1) hG R.heap (R.bQ htl) (by omega) (by omega) (by show nth zs (adr c t.h 3)+ -1=_;rw[e3];omega) (by omega) (by omega)) ⟨_,_,rfl⟩,?_⟩
 exact R.jD hz.may hz.len hf (v:=3) (.inl rfl) (x:=t.mr.refs-1) (f:=fun m=>{m with refs:=m.refs-1}) rfl
theorem yJ(hz:Wz c zs)(R:aA c zs D)(hf:D.find r=some t)(hd:t.mr.dead=true)(hn:t.h∉D.ring)(hg:t.h+1∉D.grave):
  Run c 97 [.int .i64 ((t.h:Int)+1)] zs 3 zs (.tuple #[.int .i64 (t.pt.length:Int),.int .i64 (t.dt.length:Int),.int .i64 0])∧Run c 139 [.int .i64 ((t.h:Int)+1)] zs 3 zs (.int .i64 (1+(t.lv.length:Int)))∧
  Run c 94 [.int .i64 1,.int .i64 (t.h:Int)] ((zs.set (adr c t.h 6) (t.pt.length:Int)).set (adr c t.h 7) (t.lv.length:Int)) 6 (jm c 1 t.h ((zs.set (adr c t.h 6) (t.pt.length:Int)).set (adr c t.h 7) (t.lv.length:Int))) (.bool true)∧
  nth (jm c 1 t.h ((zs.set (adr c t.h 6) (t.pt.length:Int)).set (adr c t.h 7) (t.lv.length:Int))) 6=D.pending∧
  aA c ((jm c 1 t.h ((zs.set (adr c t.h 6) (t.pt.length:Int)).set (adr c t.h 7) (t.lv.length:Int))).set 6 (D.pending+(1+(t.lv.length:Int)))) {(D.mark r (fun m=>{m with left:=(t.pt.length:Int)})).mark r (fun m=>{m with leaves:=(t.lv.length:Int)}) with grave:=D.grave++[t.h+1],pending:=D.pending+(1+(t.lv.length:Int))}:=by
 have hm:=hz.may
 have hw:=hm.w
 obtain⟨htl,hr⟩:=ae hf
 have hlt:=R.hlt htl
 have hs:=R.sizes hz htl
 have elv:t.ob.lv.length=t.lv.length:=by unfold Th.ob;simp
 have R1:aA c (zs.set (adr c t.h 6) (t.pt.length:Int)) (D.mark r (fun m=>{m with left:=(t.pt.length:Int)})):=R.Gt hm hz.len hf (v:=6) (.inl rfl) (by rw[if_pos rfl]) hn
 have hz1:Wz c (zs.set (adr c t.h 6) (t.pt.length:Int)):=hz.set _ (by omega) (by omega)
 have hf1:=gZ (fun m=>{m with left:=(t.pt.length:Int)}) hf
 have R2:aA c ((zs.set (adr c t.h 6) (t.pt.length:Int)).set (adr c t.h 7) (t.lv.length:Int)) ((D.mark r (fun m=>{m with left:=(t.pt.length:Int)})).mark r (fun m=>{m with leaves:=(t.lv.length:Int)})):=R1.Gt hm hz1.len hf1 (v:=7) (.inr rfl) (by rw[if_neg (by decide)]) hn
 have hz2:Wz c ((zs.set (adr c t.h 6) (t.pt.length:Int)).set (adr c t.h 7) (t.lv.length:Int)):=hz1.set _ (by omega) (by omega)
 have hf2:=gZ (fun m=>{m with leaves:=(t.lv.length:Int)}) hf1
 have h67:adr c t.h 6≠adr c t.h 7:=fun e=>by have:=(ax (c:=c) (by omega) (by omega) e).2;omega
 have h6:nth ((zs.set (adr c t.h 6) (t.pt.length:Int)).set (adr c t.h 7) (t.lv.length:Int)) (adr c t.h 6)=(t.pt.length:Int):=by
  rw[af (Ne.symm h67),aH (by rw[hz.len];exact eZ hlt (by omega))]
 have h7:nth ((zs.set (adr c t.h 6) (t.pt.length:Int)).set (adr c t.h 7) (t.lv.length:Int)) (adr c t.h 7)=(t.lv.length:Int):=aH (by simp;rw[hz.len];exact eZ hlt (by omega)) _
 have R3:=R2.Ko hm hz2.len hf2 hd h6 h7 hn hg
 have R4:=R3.Am hm (by rw[jI];exact hz2.len) (D.pending+(1+(t.lv.length:Int)))
 refine⟨fun p m w hG=>uP (s:=⟨zs,m⟩) (o:=t.ob) hG R.heap (R.bQ htl),fun p m w hG=> ?_,fun p m w hG=> ?_,R3.r6,R4⟩
 ·have:=qp (s:=⟨zs,m⟩) (o:=t.ob) hG R.heap (R.bQ htl)
  rw[elv] at this
  exact this
 ·exact yL p c ⟨_,m⟩ 1 t.h (D.grave.map (· -1)) w hG R2.grave (by omega) hlt (fun h=>by
   obtain⟨q,hq,e⟩:=List.mem_map.1 h
   obtain⟨u,hu,e2⟩:=R.gv q hq
   have:t.h+1=q:=by omega
   exact hg (this▸hq))
theorem FO(hr:In64 r)(hp0:0≤D.pending)(hp1:D.pending≤4294900000):Does c D 82 [.int .i64 r] 40 (D.aY r) (.bool (D.jT r)):=fun zs hz R=>by
 obtain⟨zs1,⟨d1,hd1,C1⟩,R1,hz1⟩:=(Aw c D r hr).at hz R
 cases hf:D.find r with
 |none=>
  rw[show((D.find r).isSome&& !D.dead r)=false by rw[hf];rfl] at C1
  rw[show D.kill r=D from bW _ hf] at R1
  rw[show D.jT r=false by unfold Wd.jT;rw[hf],show D.aY r=D by unfold Wd.aY;rw[hf]]
  exact⟨zs1,⟨d1,by omega,wE C1⟩,R1⟩
 |some t=>
  have ed:D.dead r=t.mr.dead:=by unfold Wd.dead;rw[hf]
  cases hd:t.mr.dead with
  |true=>
   rw[show((D.find r).isSome&& !D.dead r)=false by rw[hf,ed,hd];rfl] at C1
   rw[Ih hf hd] at R1
   rw[show D.jT r=false by unfold Wd.jT;rw[hf];simp[hd],show D.aY r=D by unfold Wd.aY;rw[hf];simp[hd]]
   exact⟨zs1,⟨d1,by omega,wE C1⟩,R1⟩
  |false=>
   rw[show((D.find r).isSome&& !D.dead r)=true by rw[hf,ed,hd];rfl] at C1
   rw[show D.jT r=true by unfold Wd.jT;rw[hf];simp[hd],show D.aY r=D.lay r t by unfold Wd.aY;rw[hf];simp[hd]]
   obtain⟨htl,hrr⟩:=ae hf
   have hlt:=R.hlt htl
   have hs:=R.sizes hz htl
   have hs1:t.pt.length≤100000:=by omega
   have hs2:t.lv.length≤1000:=by omega
   have hf1:(D.kill r).find r=some {t with mr:={t.mr with dead:=true}}:=gZ _ hf
   obtain⟨zs2,d2,b2,hd2,C2,R2⟩:=Oq hz1 R1 hf1
   have hz2:Wz c zs2:=iH.wz hz1 ⟨d2,Nat.le_refl _,C2⟩
   have hng:t.h+1∉D.grave:=fun hg=>by
    have:=(R.bur t htl hg).1
    rw[hd] at this
    cases this
   have hnr:t.h∉D.ring.filter (fun b=>b !=t.h):=fun h=>by
    have:=(List.mem_filter.1 h).2
    simp at this
   have h14:nth zs2 14=D.scan:=R2.reg 14 (by omega) (by omega)
   subst hrr
   by_cases hx:D.scan=(t.h:Int)+1
   ·have R3:aA c (zs2.set 14 0) {(D.kill ((t.h:Int)+1)).bv t.h with scan:=0}:=by
     refine R2.jR hz2.may hz2.len (k:=14) (by omega) (by omega) rfl rfl rfl rfl rfl rfl rfl rfl (fun j h1 h2 h3=> ?_) R.par
     have:j=10∨j=11∨j=12∨j=13∨j=15∨j=16∨j=17∨j=18:=by omega
     rcases this with rfl|rfl|rfl|rfl|rfl|rfl|rfl|rfl<;>rfl
    have hz3:Wz c (zs2.set 14 0):=hz2.set _ (by omega) (by omega)
    obtain⟨C3,C4,C5,h6,R4⟩:=yJ hz3 R3 (t:={t with mr:={t.mr with dead:=true}}) hf1 rfl hnr hng
    refine⟨_,⟨_,?_,zN hz.may hlt C1 C2 (h14.trans hx) C3 C4 hs1 hs2 C5 h6 hp0 hp1⟩,?_⟩
    ·omega
    ·have e:D.lay ((t.h:Int)+1) t={(({(D.kill ((t.h:Int)+1)).bv t.h with scan:=0}:Wd).mark ((t.h:Int)+1) (fun m=>{m with left:=(t.pt.length:Int)})).mark ((t.h:Int)+1) (fun m=>{m with leaves:=(t.lv.length:Int)}) with grave:=D.grave++[t.h+1],pending:=D.pending+(1+(t.lv.length:Int))}:=by
      unfold Wd.lay
      rw[if_pos hx]
     rw[e]
     exact R4
   ·have e0:({(D.kill ((t.h:Int)+1)).bv t.h with scan:=D.scan}:Wd)=(D.kill ((t.h:Int)+1)).bv t.h:=rfl
    obtain⟨C3,C4,C5,h6,R4⟩:=yJ hz2 R2 (t:={t with mr:={t.mr with dead:=true}}) hf1 rfl hnr hng
    refine⟨_,⟨_,?_,zM hz.may hlt C1 C2 h14 hx C3 C4 hs1 hs2 C5 h6 hp0 hp1⟩,?_⟩
    ·omega
    ·have e:D.lay ((t.h:Int)+1) t={(((D.kill ((t.h:Int)+1)).bv t.h).mark ((t.h:Int)+1) (fun m=>{m with left:=(t.pt.length:Int)})).mark ((t.h:Int)+1) (fun m=>{m with leaves:=(t.lv.length:Int)}) with grave:=D.grave++[t.h+1],pending:=D.pending+(1+(t.lv.length:Int))}:=by
      unfold Wd.lay
      rw[if_neg hx]
      rfl
     rw[e]
     exact R4
theorem Kj(hr:In64 r)(hp0:0≤D.pending)(hp1:D.pending≤4294900000):Does c D 19 [.int .i64 r] 42 (D.inter r) (.bool (D.Ku r)):=fun zs hz R=>by
 obtain⟨d1,hd1,C1⟩:=Kl hz R hr
 unfold Wd.inter Wd.Ku
 by_cases h0:D.cnt r=0
 ·rw[h0] at C1
  obtain⟨zs2,⟨d2,hd2,C2⟩,R2⟩:=FO (c:=c) hr hp0 hp1 zs hz R
  rw[if_pos h0,decide_eq_true h0,Bool.true_and]
  exact⟨zs2,⟨d1+d2,by omega,ME C1 C2⟩,R2⟩
 ·rw[if_neg h0,decide_eq_false h0,Bool.false_and]
  exact⟨zs,⟨d1,by omega,xS h0 C1⟩,R⟩
theorem pW{i:Nat}{x:Int}(q:Int):(D.ai r i x).find q=(D.find q).map (fun t=>if t.at r then {t with pt:=t.pt.set i x} else t):=oF (g:=fun t=>{t with pt:=t.pt.set i x}) (fun t=>⟨rfl,rfl⟩) q
theorem rD(q:Int):∀t,D.find q=some t→∃f:bZ→bZ,(D.av r).find q=some {t with mr:=f t.mr}∧(f t.mr).refs=t.mr.refs∧(f t.mr).dead=t.mr.dead∧(f t.mr).left=t.mr.left∧(f t.mr).leaves=t.mr.leaves:=fun t hf=>by
 unfold Wd.av
 split
 ·rw[eQ,hf]
  by_cases e:t.at r=true
  ·exact⟨fun m=>{m with shadow:=m.shadow-1},by simp[e],rfl,rfl,rfl,rfl⟩
  ·exact⟨id,by simp[e],rfl,rfl,rfl,rfl⟩
 ·exact⟨id,by simpa using hf,rfl,rfl,rfl,rfl⟩
theorem je(x:Int):(D.av x).pending=D.pending∧(D.av x).grave=D.grave∧(D.av x).ring=D.ring∧(D.av x).scan=D.scan∧(D.av x).clean=D.clean∧(D.av x).n=D.n∧(D.av x).w=D.w:=by
 unfold Wd.av
 split<;>exact⟨rfl,rfl,rfl,rfl,rfl,rfl,rfl⟩
theorem vL(hz:Wz c zs)(R:aA c zs D)(hr:In64 r)(hf:D.find r=some t){i a:Nat}(hi:i<t.pt.length)(ha:aU c t.ob i=some a):(∃d,d≤12∧Run c 76 [.int .i64 r,.int .i64 (i:Int)] zs d zs (.tuple #[.int .i64 (nth t.pt i),.int .i64 0]))∧0≤nth t.pt i∧nth t.pt i≤4294967295:=by
 obtain⟨htl,_⟩:=ae hf
 have hob:=iV R r
 rw[hf] at hob
 have hv:=R.yQ t htl i a (by unfold Th.ob Ob.f;simp;omega) ha
 have hfl:t.yQ i=nth t.pt i:=by unfold Th.yQ;rw[if_pos hi]
 have e1:rW c zs D.bU r (i:Int)=nth t.pt i:=by
  unfold rW
  rw[hob]
  show(if lg (i:Int) t.ob.np then iM c zs t.ob (i:Int).toNat else 0)=_
  rw[if_pos (jv (show i<t.ob.np from hi)),Int.toNat_natCast]
  unfold iM
  rw[ha,←hfl]
  exact hv
 have e2:rV c D.bU r (i:Int)=0:=by
  unfold rV
  rw[hob]
  show(if lg (i:Int) t.ob.np&&(aU c t.ob (i:Int).toNat).isSome then(0:Int) else 7)=0
  rw[jv (show i<t.ob.np from hi),Int.toNat_natCast,ha]
  rfl
 obtain⟨d,hd,C⟩:=kQ.ptr c zs D.clean D.bU r (i:Int) hz R.heap hr
 rw[e1,e2] at C
 refine⟨⟨d,hd,C⟩,?_⟩
 rw[←hfl,←hv]
 exact hz.wf a
theorem qH(hz:Wz c zs)(R:aA c zs D)(hf:D.find r=some t){i a:Nat}(hi:i<t.pt.length)(ha:aU c t.ob i=some a){x:Int}(h0:0≤x)(h1:x≤(c.N:Int)):(∃d,d≤12∧Run c 77 [.int .i64 r,.int .i64 (i:Int),.int .i64 x] zs d (zs.set a x) (.int .i64 0))∧aA c (zs.set a x) (D.ai r i x)∧Wz c (zs.set a x):=by
 obtain⟨htl,rfl⟩:=ae hf
 have hn:=hz.may.n
 obtain⟨d,hd,C⟩:=kQ.setptr_yes c zs D.clean D.bU t.ob i a x hz R.heap (R.bQ htl) hi ha h0 h1
 exact⟨⟨d,hd,C⟩,R.Pw hz.may hz.len hf hi ha x,hz.set _ h0 (by omega)⟩
theorem Ki(hf:D.find r=some t){i a:Nat}(hi:i<t.pt.length)(ha:aU c t.ob i=some a)(hp0:0≤D.pending)(hp1:D.pending≤4294900000):Does c D 169 [.int .i64 r,.int .i64 (i:Int)] 84 (D.drain r i (nth t.pt i)) (.tuple #[]):=fun zs hz R=>by
 have hr:In64 r:=by
  obtain⟨htl,rfl⟩:=ae hf
  exact R.heap.vw hz.may (R.bQ htl)
 obtain⟨⟨d1,hd1,C1⟩,hx0,hx1⟩:=vL hz R hr hf hi ha
 obtain⟨⟨d2,hd2,C2⟩,R2,hz2⟩:=qH hz R hf hi ha (x:=0) (Int.le_refl 0) (by omega)
 generalize hx:nth t.pt i=x at C1 hx0 hx1
 have hxr:In64 x:=by unfold In64;omega
 obtain⟨d3,hd3,C3⟩:=Kl hz2 R2 hxr
 unfold Wd.drain
 by_cases hc:(D.ai r i 0).cnt x=0
 ·rw[if_pos hc]
  rw[hc] at C3
  exact⟨_,⟨d1+d2+d3,by omega,xW C1 C2 C3⟩,R2⟩
 ·rw[if_neg hc]
  cases hu:(D.ai r i 0).find x with
  |none=>exact absurd (by unfold Wd.cnt;rw[hu]) hc
  |some u=>
   have hcu:(D.ai r i 0).cnt x=u.mr.refs:=by unfold Wd.cnt;rw[hu]
   obtain⟨zs3,⟨d4,hd4,C4⟩,R3,hz3⟩:=(nY c (D.ai r i 0) r (i:Int) hr).at hz2 R2
   have K:∃(D3:Wd) (zs4:List Int) (d5:Nat) (u3:Th),D3=(if(D.ai r i 0).counted r i then(D.ai r i 0).av x else D.ai r i 0)∧d5≤9∧vS c x ((D.ai r i 0).counted r i) zs3 d5 zs4∧aA c zs4 D3∧Wz c zs4∧D3.find x=some u3∧u3.mr.refs=u.mr.refs∧D3.pending=D.pending:=by
    cases hcb:(D.ai r i 0).counted r i with
    |true=>
     obtain⟨zs4,⟨d5,hd5,C5⟩,R4,hz4⟩:=(vz c (D.ai r i 0) x hxr).at hz3 R3
     obtain⟨f,hf3,e1,_⟩:=rD (D:=D.ai r i 0) (r:=x) x u hu
     exact⟨_,zs4,d5,_,by rw[if_pos rfl],by omega,.inl ⟨rfl,_,C5⟩,R4,hz4,hf3,e1,(je x).1⟩
    |false=>exact⟨_,zs3,0,u,by rw[if_neg (by decide)],by omega,.inr ⟨rfl,rfl,rfl⟩,R3,hz3,hu,rfl,rfl⟩
   obtain⟨D3,zs4,d5,u3,hD3,hd5,C5,R4,hz4,hu3,e3,ep⟩:=K
   rw[←hD3]
   have hn0:u3.mr.refs≠0:=by rw[e3,←hcu];exact hc
   obtain⟨zs5,C6,R5⟩:=FP hz4 R4 hu3 hn0
   have hz5:Wz c zs5:=iH.wz hz4 ⟨3,Nat.le_refl _,C6⟩
   have hcd:(D3.down x).cnt x=u3.mr.refs-1:=by unfold Wd.cnt Wd.down;rw[gZ _ hu3]
   show ∃zs',iH c _ _ zs 84 zs' _∧aA c zs' (if(D3.down x).cnt x=0 then(D3.down x).aY x else D3.down x)
   by_cases hk:u3.mr.refs-1=0
   ·rw[hcd,if_pos hk]
    rw[hk] at C6
    obtain⟨zs6,⟨d7,hd7,C7⟩,R6⟩:=FO (c:=c) (D:=D3.down x) hxr (by show 0≤D3.pending;rw[ep];exact hp0) (by show D3.pending≤_;rw[ep];exact hp1) zs5 hz5 R5
    exact⟨zs6,⟨d1+d2+d3+d4+d5+3+d7,by omega,xU C1 C2 C3 hc C4 C5 C6 C7⟩,R6⟩
   ·rw[hcd,if_neg hk]
    exact⟨zs5,⟨d1+d2+d3+d4+d5+3,by omega,xV C1 C2 C3 hc C4 C5 C6 hk⟩,R5⟩
end
section
variable {c:Cf} {D D':Wd} {zs zs':List Int} {t s:Th} {r:Int}
theorem GR{q:Int}(hf:D.find q=some t)(hd:t.mr.dead=true)(x:Int):(D.aY x).find q=some t:=by
 unfold Wd.aY
 cases hx:D.find x with
 |none=>exact hf
 |some u=>
  simp only
  cases hu:u.mr.dead with
  |true=>simpa using hf
  |false=>
   simp only[Bool.false_eq_true,if_false]
   have hts:=jb (D:=D) x u
   show bu q (D.lay x u).ts=some t
   rw[hts,qb (g:=fun s=>{s with mr:={s.mr with dead:=true,left:=(u.pt.length:Int),leaves:=(u.lv.length:Int)}}) (fun t=>⟨rfl,rfl⟩)]
   have hf':bu q D.ts=some t:=hf
   rw[hf']
   have:¬t.at x=true:=fun h=>by
    have e1:=aQ hf
    have e2:=aQ hx
    unfold Th.at at h
    simp at h
    have:q=x:=by omega
    subst this
    rw[hf] at hx
    cases hx
    rw[hd] at hu
    cases hu
   simp[this]
theorem GU(x:Int){b:Nat}(h:b∈(D.aY x).ring):b∈D.ring:=by
 unfold Wd.aY at h
 cases hx:D.find x with
 |none=>rw[hx] at h;exact h
 |some u=>
  rw[hx] at h
  simp only at h
  split at h
  ·exact h
  ·exact(List.mem_filter.1 (show b∈D.ring.filter (fun b=>b !=u.h) from h)).1
theorem sQ(x:Int):(D.aY x).clean=D.clean∧(D.aY x).n=D.n∧(D.aY x).w=D.w:=by
 unfold Wd.aY
 cases D.find x with
 |none=>exact⟨rfl,rfl,rfl⟩
 |some u=>
  simp only
  split
  ·exact⟨rfl,rfl,rfl⟩
  ·exact⟨rfl,rfl,rfl⟩
theorem vZ(hf:D.find r=some t)(hd:t.mr.dead=true)(i:Nat)(x:Int):∃f:bZ→bZ,(D.drain r i x).find r=some {t with pt:=t.pt.set i 0,mr:=f t.mr}∧(f t.mr).dead=true∧(f t.mr).left=t.mr.left∧(f t.mr).leaves=t.mr.leaves:=by
 have hf1:(D.ai r i 0).find r=some {t with pt:=t.pt.set i 0}:=by rw[pW,hf];simp[lY hf]
 have key:∀D2:Wd,∀u:Th,D2.find r=some u→u.mr.dead=true→∃f:bZ→bZ,(if(D2.down x).cnt x=0 then(D2.down x).aY x else D2.down x).find r=some {u with mr:=f u.mr}∧(f u.mr).dead=true∧(f u.mr).left=u.mr.left∧(f u.mr).leaves=u.mr.leaves:=fun D2 u hu hdu=>by
  have h1:∃f:bZ→bZ,(D2.down x).find r=some {u with mr:=f u.mr}∧(f u.mr).dead=true∧(f u.mr).left=u.mr.left∧(f u.mr).leaves=u.mr.leaves:=by
   unfold Wd.down
   rw[eQ,hu]
   by_cases e:u.at x=true
   ·exact⟨fun m=>{m with refs:=m.refs-1},by simp[e],hdu,rfl,rfl⟩
   ·exact⟨id,by simp[e],hdu,rfl,rfl⟩
  obtain⟨f,h1,h2,h3,h4⟩:=h1
  refine⟨f,?_,h2,h3,h4⟩
  split
  ·exact GR h1 h2 x
  ·exact h1
 unfold Wd.drain
 by_cases hc:(D.ai r i 0).cnt x=0
 ·rw[if_pos hc];exact⟨id,hf1,hd,rfl,rfl⟩
 ·rw[if_neg hc]
  have h2:∃f:bZ→bZ,(if(D.ai r i 0).counted r i then(D.ai r i 0).av x else D.ai r i 0).find r=some {t with pt:=t.pt.set i 0,mr:=f t.mr}∧(f t.mr).dead=true∧(f t.mr).left=t.mr.left∧(f t.mr).leaves=t.mr.leaves:=by
   split
   ·obtain⟨f,h1,_,h3,h4,h5⟩:=rD (D:=D.ai r i 0) (r:=x) r _ hf1
    exact⟨f,h1,h3.trans hd,h4,h5⟩
   ·exact⟨id,hf1,hd,rfl,rfl⟩
  obtain⟨f,h1,h3,h4,h5⟩:=h2
  obtain⟨f2,k1,k3,k4,k5⟩:=key _ _ h1 h3
  exact⟨fun m=>f2 (f m),k1,k3,k4.trans h4,k5.trans h5⟩
theorem Ed(i:Nat)(x:Int){b:Nat}(h:b∈(D.drain r i x).ring):b∈D.ring:=by
 unfold Wd.drain at h
 by_cases hc:(D.ai r i 0).cnt x=0
 ·rw[if_pos hc] at h;exact h
 ·rw[if_neg hc] at h
  have e2:(if(D.ai r i 0).counted r i then(D.ai r i 0).av x else D.ai r i 0).ring=D.ring:=by
   split
   ·exact(je (D:=D.ai r i 0) x).2.2.1
   ·rfl
  simp only at h
  have h':b∈((if(D.ai r i 0).counted r i then(D.ai r i 0).av x else D.ai r i 0).down x).ring:=by
   by_cases h0:((if(D.ai r i 0).counted r i then(D.ai r i 0).av x else D.ai r i 0).down x).cnt x=0
   ·rw[if_pos h0] at h;exact GU x h
   ·rw[if_neg h0] at h;exact h
  have h'':b∈(if(D.ai r i 0).counted r i then(D.ai r i 0).av x else D.ai r i 0).ring:=h'
  rw[e2] at h''
  exact h''
theorem jc:∀(l:List Int) (k:Nat),k≤l.length→(∀j,j<k→∃b:Nat,l[j]? =some (b:Int))→(∀j,k≤j→j<l.length→l[j]? =some (-1))→((l.map (fun x=>(x+1).toNat)).filterMap (fun n=>if n=0 then none else some (n-1))).length=k
 |[],k,hk,_,_=>by simp at hk;simp[hk]
 |a::l,0,_,_,h2=>by
  have h0:=h2 0 (by omega) (by simp)
  simp at h0
  subst h0
  have:=jc l 0 (by omega) (fun j hj=>absurd hj (by omega)) (fun j _ hj=>by simpa using h2 (j+1) (by omega) (by simpa using hj))
  simpa using this
 |a::l,k+1,hk,h1,h2=>by
  obtain⟨b,hb⟩:=h1 0 (by omega)
  simp at hb
  subst hb
  have:=jc l k (by simpa using hk) (fun j hj=>by simpa using h1 (j+1) (by omega)) (fun j hj hj2=>by simpa using h2 (j+1) (by omega) (by simpa using hj2))
  rw[List.map_cons,List.filterMap_cons]
  have e:((b:Int)+1).toNat=b+1:=by omega
  rw[e]
  simp only[Nat.add_eq_zero_iff,Nat.one_ne_zero,and_false,if_false,List.length_cons]
  rw[this]
theorem PX.Rb{w:Nat}{gr:List Nat}(k:PX w gr t):t.ob.blocks.length=qD t:=by
 unfold Ob.blocks Ob.leaves Th.ob qD
 rw[List.length_cons]
 cases hd:t.mr.dead with
 |true=>
  have d:=k.dead hd
  rw[if_pos rfl,jc t.lv t.mr.leaves.toNat (by have:=d.l0;have:=d.l1;omega) (fun j hj=>d.there j (by omega)) (fun j hj hj2=>d.gone j (by have:=d.l0;omega) hj2)]
  omega
 |false=>
  have a:=k.alive hd
  rw[if_neg (by decide),jc t.lv t.lv.length (Nat.le_refl _) (fun j hj=>a j hj) (fun j hj hj2=>absurd hj2 (by omega))]
  omega
theorem BL:∀l:List Th,(l.map Th.ob |>.flatMap Ob.blocks).length=(l.map (fun t=>t.ob.blocks.length)).sum
 |[]=>rfl
 |u::l=>by simp[BL l]
theorem aB.total(S:aB D)(R:aA c zs D):D.clean.length+ay qD D.ts=c.N:=by
 have h:=R.heap.perm.length_eq
 rw[List.length_append,List.length_range] at h
 have e:(D.bU.flatMap Ob.blocks).length=ay qD D.ts:=by
  have h1:D.bU.flatMap Ob.blocks=(D.live.map Th.ob).flatMap Ob.blocks:=rfl
  rw[h1,BL]
  unfold ay
  congr 1
  exact List.map_congr_left (fun t ht=>(S.ok t ht).Rb)
 omega
theorem KS(t:Th):dn t≤qD t:=by unfold dn qD;split<;>omega
theorem aB.Ae(S:aB D)(R:aA c zs D)(hm:c.May):0≤D.pending∧D.pending≤1048576:=by
 have h1:=S.total R
 have h2:=vP (φ:=dn) (ψ:=qD) (l:=D.ts) (fun t _=>KS t)
 have h3:=S.pend
 have h4:=hm.n
 omega
theorem aB.Nb(S:aB D)(ht:t∈D.live)(hd:t.mr.dead=true):0<D.pending:=by
 have h1:=xn (φ:=dn) ht
 have h2:1≤dn t:=by unfold dn;rw[hd,if_pos rfl];omega
 have:=S.pend
 have h3:ay dn D.ts=ay dn D.ts:=rfl
 unfold Wd.live at ht
 omega
theorem QD.field{w:Nat}(hm:c.May)(hw:c.W=w)(d:QD w t)(g:Geo w t){i:Nat}(hi:(i:Int)<t.mr.left):i<t.pt.length∧∃a,aU c t.ob i=some a:=by
 have hW:=hm.w
 have h1:i<t.pt.length:=by have:=d.f1;omega
 refine⟨h1,?_⟩
 have ef:t.ob.f=t.pt.length+t.dt.length:=rfl
 by_cases hs:t.ob.f≤c.W-8
 ·exact⟨_,by unfold aU;rw[jX hs];rfl⟩
 ·have hb:=(g.big (by rw[←hw];omega)).1
  have hl:=d.fl hb
  have hq:(i/(c.W-1):Nat)<t.mr.leaves.toNat:=by
   rw[Nat.div_lt_iff_lt_mul (by omega)]
   have e:((t.mr.leaves.toNat*(c.W-1):Nat):Int)=t.mr.leaves*((w:Int)-1):=by
    rw[Int.natCast_mul,Int.toNat_of_nonneg d.l0]
    congr 1
    omega
   omega
  obtain⟨b,hb⟩:=d.there (i/(c.W-1)) (by have:=d.l0;omega)
  exact⟨_,by unfold aU;rw[kI hs (Gb hb)];rfl⟩
theorem Mc(R:aA c zs D)(l:Int):D.ahead l=jP c.W l:=by unfold Wd.ahead jP;rw[R.w]
theorem Hf{k:Nat}(R:aA c zs D){g:Nat}{rest:List Nat}(hg:D.grave=g::rest)(hk:k=g-1):Run c 93 [.int .i64 1] zs 1 zs (.tuple #[.int .i64 (k:Int),.bool true]):=fun p m w hG=>by
 have hC:=R.grave
 rw[hg,List.map_cons,←hk] at hC
 exact Bq p c ⟨zs,m⟩ 1 k (rest.map (· -1)) w hG hC (by omega)
set_option maxHeartbeats 1000000 in
theorem Ms(S:aB D):Does c D 113 [] 90 D.step (.tuple #[.bool D.gives,.bool (!D.grave.isEmpty)]):=fun zs hz R=>by
 have hm:=hz.may
 have hw:=hm.w
 unfold Wd.step Wd.gives
 cases hg:D.grave with
 |nil=>
  have hC:=R.grave
  rw[hg] at hC
  exact⟨zs,⟨_,by show QF 1≤90;decide,zO (fun p m w hG=>uu p c ⟨zs,m⟩ 1 w hG (.inr ⟨1,rfl,by omega,hC⟩))⟩,R⟩
 |cons g rest=>
  obtain⟨t,htl,e⟩:=S.gv g (by rw[hg];simp)
  have hf:D.find (g:Int)=some t:=by have:=R.bE htl;rwa[show((t.h:Int)+1)=(g:Int) by omega] at this
  have hk:=S.ok t htl
  have hd:t.mr.dead=true:=hk.iff_.2 (by rw[e,hg];simp)
  have d:=hk.dead hd
  have hgm:t.h+1∈D.grave:=by rw[e,hg];simp
  obtain⟨_,b6,b7,bn⟩:=R.bur t htl hgm
  have hs:=R.sizes hz htl
  have hlt:=R.hlt htl
  have hge:(g:Int)=(t.h:Int)+1:=by omega
  have C1:=Hf R hg (k:=t.h) (by omega)
  have hpb:=S.Ae R hm
  have hpp:=S.Nb htl hd
  have hpl:D.pending≤4294967295:=by omega
  simp only[hf]
  rw[hge] at hf
  have hl0:=d.l0
  have hl1:=d.l1
  have hf0:=d.f0
  have hf1:=d.f1
  unfold Wd.work
  rw[hge,Mc R]
  by_cases ha:jP c.W t.mr.leaves<t.mr.left
  ·have ha0:0≤jP c.W t.mr.leaves:=by
    unfold jP
    refine Int.mul_nonneg ?_ (by omega)
    split<;>omega
   rw[if_pos ha,decide_eq_true ha]
   have hi:(((t.mr.left-1).toNat:Nat):Int)<t.mr.left:=by omega
   obtain⟨hip,a,haa⟩:=d.field hm R.w.symm hk.vI hi
   obtain⟨zs2,⟨d2,hd2,C2⟩,R2,hz2⟩:=(Ki (c:=c) hf hip haa hpb.1 (by omega)).at hz R
   obtain⟨f,hf2,k1,k2,k3⟩:=vZ hf hd (t.mr.left-1).toNat (nth t.pt (t.mr.left-1).toNat)
   rw[show(((t.mr.left-1).toNat:Nat):Int)=t.mr.left-1 by omega] at C2
   have R3:=R2.Gt hm hz2.len hf2 (v:=6) (.inl rfl) (x:=t.mr.left-1) (f:=fun m=>{m with left:=t.mr.left-1}) (by rw[if_pos rfl]) (fun h=>bn (Ed _ _ h))
   exact⟨_,⟨1+2+d2+1,by omega,xX hm hlt C1 b6 b7 (by omega) (by omega) hl0 (by omega) ha C2⟩,R3⟩
  ·rw[if_neg ha,decide_eq_false ha]
   by_cases hl:0<t.mr.leaves
   ·rw[if_pos hl]
    obtain⟨b,hb⟩:=d.there (t.mr.leaves-1).toNat (by omega)
    have hnb:(nth t.lv (t.mr.leaves-1).toNat).toNat=b:=by unfold nth;rw[List.getD_eq_getElem?_getD,hb];simp
    rw[hnb]
    have hbl:=Gb hb
    obtain⟨h1,h2⟩:=R.heap.Px hm hz.len (R.bQ htl) hbl
    have C2:Run c 170 [.int .i64 ((t.h:Int)+1),.int .i64 (t.mr.leaves-1)] zs (7+kU D.clean) ((bf c b zs).set (adr c t.h (8+(t.mr.leaves-1).toNat)) 0) (.bool true):=fun p m w hG=>by
     have:=Cr (s:=⟨zs,m⟩) (o:=t.ob) (t.mr.leaves-1).toNat b hG R.heap (R.bQ htl) hbl
     rw[show(((t.mr.leaves-1).toNat:Nat):Int)=t.mr.leaves-1 by omega] at this
     exact this
    have hz2:=iH.wz hz ⟨_,Nat.le_refl _,C2⟩
    have R2:=R.Px hm hf hb h1 h2
    have hf2:(D.gX ((t.h:Int)+1) (t.mr.leaves-1).toNat b).find ((t.h:Int)+1)=some {t with lv:=t.lv.set (t.mr.leaves-1).toNat (-1)}:=by
     show(D.upd ((t.h:Int)+1) (fun s=>{s with lv:=s.lv.set (t.mr.leaves-1).toNat (-1)})).find _=_
     rw[oF (g:=fun s=>{s with lv:=s.lv.set (t.mr.leaves-1).toNat (-1)}) (fun t=>⟨rfl,rfl⟩),hf]
     simp[lY hf]
    have R3:=R2.Gt hm hz2.len hf2 (v:=7) (.inr rfl) (x:=t.mr.leaves-1) (f:=fun m=>{m with leaves:=t.mr.leaves-1}) (by rw[if_neg (by decide)]) bn
    have R4:=R3.Am hm (by rw[List.length_set];exact hz2.len) (D.pending-1)
    refine⟨_,⟨1+2+(7+kU D.clean)+3,?_,zP hm hlt C1 b6 b7 hf0 (by omega) hl (by omega) ha C2 R3.r6 hpp hpl⟩,R4⟩
    unfold kU
    split<;>omega
   ·rw[if_neg hl]
    have hl0':t.mr.leaves=0:=by omega
    have hleft:¬jP c.W 0<t.mr.left:=by rw[←hl0'];exact ha
    have R2:=R.Ib hm hz.len hg
    rw[show g-1=t.h by omega] at R2
    have C2:Run c 171 [.int .i64 1] zs (takeD (rest.map (· -1))) (fu c 1 t.h zs) (.tuple #[.int .i64 (t.h:Int),.bool true]):=fun p m w hG=>by
     have hC:=R.grave
     rw[hg,List.map_cons,show g-1=t.h by omega] at hC
     exact vX p c ⟨zs,m⟩ 1 t.h (rest.map (· -1)) w hG hC (by omega)
    have hz2:=iH.wz hz ⟨_,Nat.le_refl _,C2⟩
    have hle:t.ob.leaves=[]:=by
     have h1:=jc t.lv 0 (by omega) (fun j hj=>absurd hj (by omega)) (fun j _ hj=>d.gone j (by omega) hj)
     exact List.length_eq_zero_iff.1 h1
    have hm2:t∈({D with grave:=rest}:Wd).live:=htl
    obtain⟨h1,h2⟩:=R2.heap.ended hm hz2.len (R2.bQ hm2) hle
    have C3:Run c 172 [.int .i64 ((t.h:Int)+1)] (fu c 1 t.h zs) (3+kU D.clean) (bf c t.h (fu c 1 t.h zs)) (.bool true):=fun p m w hG=>EC (s:=⟨_,m⟩) (o:=t.ob) hG R2.heap (R2.bQ hm2)
    have hng:t.h+1∉rest:=by
     have:=S.gd
     rw[hg,List.nodup_cons] at this
     rw[e];exact this.1
    have R3:=R2.ended hm (t:=t) hf bn hng h1 h2
    have hz3:=iH.wz hz2 ⟨_,Nat.le_refl _,C3⟩
    have R4:=R3.Am hm hz3.len (D.pending-1)
    refine⟨_,⟨1+2+takeD (rest.map (· -1))+(3+kU D.clean)+2,?_,BQ hm hlt C1 b6 (by rw[b7];exact hl0') hf0 (by omega) hleft C2 C3 R3.r6 hpp hpl⟩,R4⟩
    unfold kU takeD
    split<;>split<;>omega
end
section
variable {D D':Wd} {r:Int} {t s u:Th} {g:Th→Th} {φ:Th→Nat}
theorem zz{f g:Th→Th}(hf:∀t,(f t).ended=t.ended∧(f t).h=t.h):∀l:List Th,bL r g (bL r f l)=bL r (fun t=>g (f t)) l
 |[]=>rfl
 |u::l=>by
  have hat:(f u).at r=u.at r:=by unfold Th.at;rw[(hf u).1,(hf u).2]
  simp only[bL]
  cases h:u.at r with
  |true=>simp[bL,hat,h]
  |false=>simp[bL,h,zz hf l]
theorem dZ(r:Int){f:bZ→bZ}(h:∀t:Th,φ {t with mr:=f t.mr}=φ t):ay φ (D.mark r f).ts=ay φ D.ts:=by
 cases hf:D.find r with
 |none=>rw[bW f hf]
 |some t=>
  have:=gQ (φ:=φ) (g:=fun t=>{t with mr:=f t.mr}) (t:=t) hf (aQ hf).2.1
  rw[h] at this
  show ay φ (bL r (fun t=>{t with mr:=f t.mr}) D.ts)=_
  omega
theorem pX(hf:D.find r=some t)(i:Nat)(x:Int):ay φ (D.ai r i x).ts+φ t=ay φ D.ts+φ {t with pt:=t.pt.set i x}:=gQ (g:=fun t=>{t with pt:=t.pt.set i x}) hf (aQ hf).2.1
theorem IP(x:Int)(h:∀t:Th,t.mr.dead=false→φ (wL t)=φ t):ay φ (D.aY x).ts=ay φ D.ts:=by
 unfold Wd.aY
 cases hf:D.find x with
 |none=>rfl
 |some t=>
  simp only
  cases hd:t.mr.dead with
  |true=>simp
  |false=>
   simp only[Bool.false_eq_true,if_false]
   rw[jb]
   have:=gQ (φ:=φ) (g:=fun s=>{s with mr:={s.mr with dead:=true,left:=(t.pt.length:Int),leaves:=(t.lv.length:Int)}}) (t:=t) hf (aQ hf).2.1
   have e:φ ({t with mr:={t.mr with dead:=true,left:=(t.pt.length:Int),leaves:=(t.lv.length:Int)}})=φ t:=h t hd
   omega
theorem Mj(i:Nat)(x:Int):(D.drain r i x).w=D.w∧(D.drain r i x).n=D.n∧(D.drain r i x).clean=D.clean:=by
 have key:∀D2:Wd,(if(D2.down x).cnt x=0 then(D2.down x).aY x else D2.down x).w=D2.w∧(if(D2.down x).cnt x=0 then(D2.down x).aY x else D2.down x).n=D2.n∧(if(D2.down x).cnt x=0 then(D2.down x).aY x else D2.down x).clean=D2.clean:=fun D2=>by
  split
  ·exact⟨(sQ x).2.2,(sQ x).2.1,(sQ x).1⟩
  ·exact⟨rfl,rfl,rfl⟩
 unfold Wd.drain
 by_cases hc:(D.ai r i 0).cnt x=0
 ·rw[if_pos hc];exact⟨rfl,rfl,rfl⟩
 ·rw[if_neg hc]
  obtain⟨k1,k2,k3⟩:=key (if(D.ai r i 0).counted r i then(D.ai r i 0).av x else D.ai r i 0)
  refine⟨k1.trans ?_,k2.trans ?_,k3.trans ?_⟩<;>split<;>first|rfl|exact(je (D:=D.ai r i 0) x).2.2.2.2.2.2|exact(je (D:=D.ai r i 0) x).2.2.2.2.2.1|exact(je (D:=D.ai r i 0) x).2.2.2.2.1
theorem GM(S:aB D){l:Int}(h:0<l):D.ahead l=(l-1)*((D.w:Int)-1):=by unfold Wd.ahead;rw[if_pos h]
theorem ahead_zero:D.ahead 0=0:=by unfold Wd.ahead;rw[if_neg (by omega)];omega
theorem aB.head(S:aB D){q:Nat}{rest:List Nat}(hg:D.grave=q::rest):∃t,t∈D.live∧t.h+1=q∧D.find (q:Int)=some t∧t.mr.dead=true∧QD D.w t∧D.step=D.work q rest t:=by
 obtain⟨t,htl,e⟩:=S.gv q (by rw[hg];simp)
 have hf:D.find (q:Int)=some t:=by have:=S.bE htl;rwa[show((t.h:Int)+1)=(q:Int) by omega] at this
 have hk:=S.ok t htl
 have hd:t.mr.dead=true:=hk.iff_.2 (by rw[e,hg];simp)
 refine⟨t,htl,e,hf,hd,hk.dead hd,?_⟩
 unfold Wd.step
 rw[hg]
 simp only[hf]
theorem gH(r:Int)(j b:Nat)(k:Int):((D.gX r j b).mark r (fun m=>{m with leaves:=k})).ts=bL r (fun s=>{s with lv:=s.lv.set j (-1),mr:={s.mr with leaves:=k}}) D.ts:=
 zz (f:=fun t=>{t with lv:=t.lv.set j (-1)}) (g:=fun t=>{t with mr:={t.mr with leaves:=k}}) (fun _=>⟨rfl,rfl⟩) D.ts
theorem aB.step(S:aB D):aB D.step:=by
 cases hg:D.grave with
 |nil=>unfold Wd.step;rw[hg];exact S
 |cons q rest=>
  obtain⟨t,htl,e,hf,hd,d,es⟩:=S.head hg
  have hk:=S.ok t htl
  have hw:=S.w
  rw[es]
  unfold Wd.work
  by_cases ha:D.ahead t.mr.leaves<t.mr.left
  ·have h0:0≤D.ahead t.mr.leaves:=by
    unfold Wd.ahead
    refine Int.mul_nonneg ?_ (by omega)
    split<;>omega
   rw[if_pos ha]
   have S1:=S.drain hf (t.mr.left-1).toNat (nth t.pt (t.mr.left-1).toNat)
   obtain⟨f,hf1,k1,k2,k3⟩:=vZ hf hd (t.mr.left-1).toNat (nth t.pt (t.mr.left-1).toNat)
   have hw1:=(Mj (D:=D) (r:=(q:Int)) (t.mr.left-1).toNat (nth t.pt (t.mr.left-1).toNat)).1
   have kk:=S1.ok _ (ae hf1).1
   refine S1.upd (g:=fun s=>{s with mr:={s.mr with left:=t.mr.left-1}}) hf1 (aQ hf1).2.1 rfl rfl rfl rfl ⟨⟨kk.vI.small,kk.vI.big⟩,kk.iff_,fun _=> ?_,fun h=>by rw[show _=true from k1] at h;cases h⟩ (fun b hb=>.inl hb) rfl
   have dd:=kk.dead k1
   refine⟨dd.l0,dd.l1,?_,?_,fun hl=> ?_,dd.there,dd.gone,fun i hi=> ?_⟩
   ·show 0≤t.mr.left-1;omega
   ·show t.mr.left-1≤_
    have:=dd.f1
    have e2:(f t.mr).left=t.mr.left:=k2
    have e3:(f t.mr).left≤((t.pt.set (t.mr.left-1).toNat 0).length:Int):=this
    rw[e2] at e3
    show t.mr.left-1≤((t.pt.set (t.mr.left-1).toNat 0).length:Int)
    omega
   ·have h1:=dd.fl hl
    have h2:(f t.mr).left≤(f t.mr).leaves*(((D.drain (q:Int) (t.mr.left-1).toNat (nth t.pt (t.mr.left-1).toNat)).w:Int)-1):=h1
    rw[k2] at h2
    show t.mr.left-1≤(f t.mr).leaves*_
    omega
   ·have hi':t.mr.left-1≤(i:Int):=hi
    show nth (t.pt.set (t.mr.left-1).toNat 0) i=0
    by_cases ei:(t.mr.left-1).toNat=i
    ·rw[ei]
     by_cases hlt:i<t.pt.length
     ·rw[aH hlt]
     ·rw[cZ (by simp;omega)]
    ·rw[af ei]
     exact d.zero i (by omega)
  ·rw[if_neg ha]
   by_cases hl:0<t.mr.leaves
   ·rw[if_pos hl]
    have hp:dn t=1+t.mr.leaves.toNat:=by unfold dn;rw[hd,if_pos rfl]
    have hlen:((t.mr.leaves-1).toNat:Nat)<t.lv.length:=by have:=d.l1;omega
    have hfl:t.mr.left≤(t.mr.leaves-1)*((D.w:Int)-1):=by rw[←GM S hl];omega
    refine S.upd (g:=fun s=>{s with lv:=s.lv.set (t.mr.leaves-1).toNat (-1),mr:={s.mr with leaves:=t.mr.leaves-1}}) hf (aQ hf).2.1 rfl (gH _ _ _ _) rfl rfl ⟨⟨fun h=> ?_,fun h=> ?_⟩,hk.iff_,fun _=>⟨?_,?_,d.f0,d.f1,fun _=>hfl,fun j hj=> ?_,fun j hj hj2=> ?_,d.zero⟩,fun h=>by rw[show _=true from hd] at h;cases h⟩ (fun b hb=>.inl hb) ?_
    ·have:=hk.vI.small h
     rw[this] at hlen
     simp at hlen
    ·have:=hk.vI.big h
     refine⟨?_,by simpa using this.2⟩
     show t.lv.set (t.mr.leaves-1).toNat (-1)≠[]
     intro hx
     have:=congrArg List.length hx
     simp at this
     rw[this] at hlen
     simp at hlen
    ·show 0≤t.mr.leaves-1;omega
    ·show t.mr.leaves-1≤((t.lv.set (t.mr.leaves-1).toNat (-1)).length:Int)
     have:=d.l1
     simp
     omega
    ·have hj':(j:Int)<t.mr.leaves-1:=hj
     show ∃b:Nat,(t.lv.set (t.mr.leaves-1).toNat (-1))[j]? =some (b:Int)
     rw[List.getElem?_set_ne (by omega)]
     exact d.there j (by omega)
    ·have hj':t.mr.leaves-1≤(j:Int):=hj
     have hj2':j<t.lv.length:=by simpa using hj2
     show(t.lv.set (t.mr.leaves-1).toNat (-1))[j]? =some (-1)
     by_cases ej:(t.mr.leaves-1).toNat=j
     ·rw[ej,List.getElem?_set_self hj2']
     ·rw[List.getElem?_set_ne ej]
      exact d.gone j (by omega) hj2'
    ·have hp2:dn ({t with lv:=t.lv.set (t.mr.leaves-1).toNat (-1),mr:={t.mr with leaves:=t.mr.leaves-1}})=1+(t.mr.leaves-1).toNat:=by
      unfold dn
      simp[hd]
     show D.pending-1+(dn t:Int)=D.pending+(dn ({t with lv:=t.lv.set (t.mr.leaves-1).toNat (-1),mr:={t.mr with leaves:=t.mr.leaves-1}}):Int)
     rw[hp,hp2]
     omega
   ·rw[if_neg hl]
    have hl0:t.mr.leaves=0:=by have:=d.l0;omega
    have hlive:(({D with grave:=rest}:Wd).ib (q:Int) t.h).live=D.live.filter (fun s=>s.h !=t.h):=dK (g:=fun s=>{s with ended:=true}) (fun _=>rfl) S.nd hf
    have hmem:∀s,s∈D.live.filter (fun s=>s.h !=t.h)→s∈D.live∧s.h≠t.h:=fun s hs=>by
     have:=List.mem_filter.1 hs
     exact⟨this.1,by simpa using this.2⟩
    have hnd:=S.gd
    rw[hg,List.nodup_cons] at hnd
    have hsum:=sw (φ:=dn) (g:=fun s=>{s with ended:=true}) hf rfl
    have hp:dn t=1:=by unfold dn;rw[hd,if_pos rfl,hl0];rfl
    show aB {({D with grave:=rest}:Wd).ib (q:Int) t.h with pending:=D.pending-1}
    refine⟨S.w,?_,hnd.2,fun g hg'=> ?_,fun s hs=> ?_,fun s hs hr=> ?_,?_⟩
    ·show((({D with grave:=rest}:Wd).ib (q:Int) t.h).live.map Th.h).Nodup
     rw[hlive]
     exact S.nd.sublist (List.Sublist.map _ List.filter_sublist)
    ·obtain⟨u,hu,e2⟩:=S.gv g (by rw[hg];exact List.mem_cons_of_mem _ hg')
     refine⟨u,?_,e2⟩
     show u∈(({D with grave:=rest}:Wd).ib (q:Int) t.h).live
     rw[hlive]
     refine List.mem_filter.2 ⟨hu,?_⟩
     have:u.h≠t.h:=fun ex=>hnd.1 (by rw[←e,←ex,e2];exact hg')
     simpa using this
    ·have hs':s∈(({D with grave:=rest}:Wd).ib (q:Int) t.h).live:=hs
     rw[hlive] at hs'
     obtain⟨h1,h2⟩:=hmem s hs'
     have k:=S.ok s h1
     refine⟨k.vI,?_,k.dead,k.alive⟩
     show s.mr.dead=true↔s.h+1∈rest
     rw[k.iff_,hg,List.mem_cons]
     exact⟨fun h=>by rcases h with h|h;exact absurd (by omega) h2;exact h,fun h=>.inr h⟩
    ·have hs':s∈(({D with grave:=rest}:Wd).ib (q:Int) t.h).live:=hs
     rw[hlive] at hs'
     exact S.ring s (hmem s hs').1 hr
    ·show D.pending-1=(ay dn (bL (q:Int) (fun s=>{s with ended:=true}) D.ts):Int)
     have:=S.pend
     omega
end
section
variable {w w':World} {lo:Nat} {lab:Nat→Nat} {a:WA} {D:Wd} {i:Nat} {t t':Th} {x:TA} {n v b:Nat} {cl:List Nat} {ts:List Th}
theorem bY.Ak{w1:World}(h:bY w lo lab a D)(hb:Below w.heap.size w w1){ra:Option Addr}(rc:Nat){l:List Nat}(hr:Row w1 .i64 ra (ints l))(hf:∀b off,ra=some ⟨b,off,none⟩→w.heap.size≤b):
  ∃lab',bY (w1.setCell ⟨a.q,11,none⟩ (.slice ra l.length rc)) lo lab' {a with ra:=ra,rc:=rc} {D with ring:=l}:=by
 have hlo:lo≤w.heap.size:=Nat.le_of_lt (Nat.lt_of_le_of_lt h.lq.1 h.wb.lt)
 obtain⟨lab',h1,h2⟩:=wU (lab:=lab) hr hf hlo 5
 exact⟨lab',((h.re h1).later hb).Gu hr h2⟩
theorem bY.wC{w1:World}(h:bY w lo lab a D)(hb:Below w.heap.size w w1){ga:Option Addr}(gc:Nat){l:List Nat}(hr:Row w1 .i64 ga (ints l))(hf:∀b off,ga=some ⟨b,off,none⟩→w.heap.size≤b):
  ∃lab',bY (w1.setCell ⟨a.q,12,none⟩ (.slice ga l.length gc)) lo lab' {a with ga:=ga,gc:=gc} {D with grave:=l}:=by
 have hlo:lo≤w.heap.size:=Nat.le_of_lt (Nat.lt_of_le_of_lt h.lq.1 h.wb.lt)
 obtain⟨lab',h1,h2⟩:=wU (lab:=lab) hr hf hlo 6
 exact⟨lab',((h.re h1).later hb).CR hr h2⟩
end
section
variable {w w':World} {lo:Nat} {lab:Nat→Nat} {a:WA} {D:Wd} {i:Nat} {t t':Th} {x:TA} {n v b:Nat} {cl:List Nat} {ts:List Th}
theorem OC(h:bY w lo lab a D)(r:Int):
  Calls Tryz.prog 40 #[.pointer (some ⟨a.hb,0,none⟩),.int .i64 r] w fun e w'=>e=.returned (a.tp (D.ix r))∧w=w':=by
 have c3:=h.h.c3
 obtain⟨⟨om,capm,hmv⟩,hmx⟩:=tQ h.h.tv
 have HMX:Hid (D.ts.length≤maxLen):=hid hmx
 have HMV:=hid hmv
 rw[hmv] at c3
 have H:=hid h
 clear h hmx hmv
 go_enter Tryz.func40,Tryz.ntmps40
 go_wp2_with fail
 go_loop [5] (fun i=>∃k:Nat,k≤D.ts.length∧i=.int .i64 (k:Int)∧∀(j:Nat) u,j<k→D.ts[j]? =some u→u.at r=false) (fun i=>D.ts.length-(intOf i).toNat)
 case atStart=>exact⟨0,Nat.zero_le _,rfl,fun j u h=>absurd h (by omega)⟩
 case round=>
  obtain⟨k,hk,rfl,hno⟩:=hrel
  have HN:=hid hno
  clear hno
  by_cases hlt:k<D.ts.length
  ·obtain⟨t,ht⟩:∃t,D.ts[k]? =some t:=⟨_,List.getElem?_eq_getElem hlt⟩
   obtain⟨x,hx⟩:=H.out.h.at ht
   obtain⟨g,cap,htv,ct⟩:=H.out.h.PI ht hx
   rw[HMV.out] at htv
   obtain⟨rfl,_,rfl⟩:om=some ⟨g,0,none⟩∧D.ts.length=D.ts.length∧capm=cap:=by simpa using htv
   have hT:=H.out.h.th k t x ht hx
   have d0:=hT.c0
   have d4:=hT.c4
   have hbd:=H.out.h.bd t (List.mem_of_getElem? ht)
   have hwr:IntKind.i64.wrap ((t.h:Int)+1)=(t.h:Int)+1:=IntWalk.i64_in _ (by omega)
   have hlx:=HMX.out
   unfold maxLen at hlx
   have HT:=hid ht
   have HX:=hid hx
   clear hT hbd ht hx htv
   cases hen:t.ended with
   |true=>
    rw[hen] at d4
    have HA:=hid (Bp (r:=r) hen)
    clear hen
    go_wp2_with fail
    go_round
    case rel=>exact⟨k+1,by omega,by go_num,fun j u hj hu=>by
     by_cases e:j=k
     ·subst e;rw[HT.out] at hu;cases hu;exact HA.out
     ·exact HN.out j u (by omega) hu⟩
    case measure=>simp[intOf];omega
   |false=>
    rw[hen] at d4
    by_cases he:(t.h:Int)+1=r
    ·have E:Hid (a.tp (D.ix r)=.pointer (some ⟨x.tb,0,none⟩)):=hid (by
      rw[show D.ix r=some k from zR HT.out (at_eq hen he) (fun j u hj hu=>HN.out j u hj hu)]
      simp[WA.tp,HX.out])
     have hb:=BD he
     clear he hen
     go_wp2_with fail
     go_ret
     exact⟨by rw[E.out];rfl,rfl⟩
    ·have HA:=hid (NR (t:=t) (r:=r) he)
     have hb:=fB he
     clear he hen
     go_wp2_with fail
     go_round
     case rel=>exact⟨k+1,by omega,by go_num,fun j u hj hu=>by
      by_cases e:j=k
      ·subst e;rw[HT.out] at hu;cases hu;exact HA.out
      ·exact HN.out j u (by omega) hu⟩
     case measure=>simp[intOf];omega
  ·have E:Hid (D.ix r=none):=hid (wJ.2 (fun u hu=>by
    obtain⟨j,hj⟩:=List.mem_iff_getElem?.1 hu
    exact HN.out j u (by have:=(List.getElem?_eq_some_iff.1 hj).1;omega) hj))
   go_wp2_with fail
   go_ret
   exact⟨by rw[E.out];rfl,rfl⟩
theorem wF(h:bY w lo lab a D){r:Int}(hi:D.ix r=some i)(hx:a.tas[i]? =some x):
  Calls Tryz.prog 40 #[.pointer (some ⟨a.hb,0,none⟩),.int .i64 r] w fun e w'=>e=.returned (.pointer (some ⟨x.tb,0,none⟩))∧w=w':=by
 have:=OC h r
 rw[hi] at this
 simp only[WA.tp,hx] at this
 exact this
structure PQ (v:Nat) (t:Th):Prop where
 w0:16≤v
 w1:v≤256
 f:((t.pt.length+t.dt.length:Nat):Int)≤aZ (v:Int)
 big:¬t.pt.length+t.dt.length≤v-8→t.pt.length+t.dt.length≤t.lv.length*(v-1)
theorem PQ.small(z:PQ v t):t.pt.length+t.dt.length≤65536:=by
 have h1:=z.f
 have h2:aZ (v:Int)=((v:Int)-8)*((v:Int)-1):=rfl
 have h3:((v:Int)-8)*((v:Int)-1)≤248*255:=Int.mul_le_mul (by have:=z.w1;omega) (by have:=z.w1;omega) (by have:=z.w0;omega) (by omega)
 omega
theorem PQ.leaf(z:PQ v t)(hb:¬t.pt.length+t.dt.length≤v-8){k:Nat}(hk:k<t.pt.length+t.dt.length):k/(v-1)<t.lv.length:=by
 have:=z.big hb
 have:=z.w0
 rw[Nat.div_lt_iff_lt_mul (by omega)]
 omega
end
end Go.Proofs.YtbfdimibehkbjaaGreat.Pk
