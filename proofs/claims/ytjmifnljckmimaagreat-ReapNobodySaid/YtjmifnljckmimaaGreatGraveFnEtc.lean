/-
  Texts laid together: GraveFn, GraveFn2, GraveDo, GraveStep, GravNam, RefG, RefG2.
-/
import Derived.Test.YtjmifnljckmimaaGreatActsWzEtc
import Derived.Test.YtjmifnljckmimaaGreatCountFnEtc
import Derived.Lib.MinMax
import Derived.Test.YtjmifnljckmimaaGreatRefMkEtc
namespace Go.Proofs.YtjmifnljckmimaaGreat.Pk
open Lib (hid)
open Go.RowKit
set_option linter.unusedVariables false
set_option linter.unusedSimpArgs false
set_option maxRecDepth 100000
abbrev Run(c:Cf)(f:FuncId)(args:List Value)(zs:List Int)(d:Nat)(zs':List Int)(v:Value):Prop:=
 ∀(p:Pl) (m:Nat) (w:World),G w p c ⟨zs,m⟩→Calls Tryz.prog f (List.toArray (.pointer (some ⟨p.a,0,none⟩)::args)) w (GP w p c ⟨zs',m+d⟩ v)
section
variable {c:Cf} {zs zs1 zs2 zs3:List Int} {d1 d2 d3 d4:Nat}
theorem vC{r:Int}(C1:Run c 134 [.int .i64 r] zs d1 zs1 (.bool false)):Run c 75 [.int .i64 r] zs d1 zs1 (.bool false):=fun p m w hG=>by
 have HG:=hid hG
 have HC:=hid C1
 clear hG C1
 go_enter Tryz.func75,Tryz.ntmps75
 have HT0:Hid (Touch (inG p) w w):=hid (Touch.refl _ _)
 go_wp2_with fail
 refine(HC.out p _ _ HG.out).mono ?_
 rintro e wm1 ⟨rfl,hG,hT⟩
 have HG1:=hid hG
 have HT1:Hid (Touch (inG p) _ wm1):=hid (HT0.out.trans hT)
 clear hG hT
 go_wp2_with fail
 go_ret
 exact⟨rfl,HG1.out,HT1.out⟩
set_option maxHeartbeats 1000000 in
theorem zx{h np nd L:Nat}{b2:Bool}{P:Int}(hm:c.May)(hh:h<c.N)(C1:Run c 134 [.int .i64 ((h:Int)+1)] zs d1 zs1 (.bool true))(C2:Run c 135 [.int .i64 (h:Int)] zs1 d2 zs2 (.bool b2))
  (h14:nth zs2 14=(h:Int)+1) (C3:Run c 110 [.int .i64 ((h:Int)+1)] (zs2.set 14 0) d3 (zs2.set 14 0) (.tuple #[.int .i64 (np:Int),.int .i64 (nd:Int),.int .i64 0]))
  (C4:Run c 26 [.int .i64 ((h:Int)+1)] (zs2.set 14 0) d4 (zs2.set 14 0) (.int .i64 (1+(L:Int)))) (hnp:np≤100000) (hL:L≤1000)
  (C5:Run c 93 [.int .i64 1,.int .i64 (h:Int)] (((zs2.set 14 0).set (adr c h 6) np).set (adr c h 7) L) 6 (iQ c 1 h (((zs2.set 14 0).set (adr c h 6) np).set (adr c h 7) L)) (.bool true))
  (h6:nth (iQ c 1 h (((zs2.set 14 0).set (adr c h 6) np).set (adr c h 7) L)) 6=P) (hP0:0≤P) (hP1:P≤4294900000):
  Run c 75 [.int .i64 ((h:Int)+1)] zs (d1+d2+2+d3+d4+10) ((iQ c 1 h (((zs2.set 14 0).set (adr c h 6) np).set (adr c h 7) L)).set 6 (P+(1+(L:Int)))) (.bool true):=fun p m w hG=>by
 have hw:=hm.w
 have hn:=hm.n
 have e1:IntKind.i64.wrap ((h:Int)+1-1)=(h:Int):=by rw[IntWalk.i64_in _ (by omega)];omega
 have e1b:IntKind.i64.wrap (h:Int)=(h:Int):=IntWalk.i64_in _ (by omega)
 have e3b:IntKind.i64.wrap (L:Int)=(L:Int):=IntWalk.i64_in _ (by omega)
 have e2:IntKind.u32.wrap (np:Int)=(np:Int):=IntWalk.u32_in _ (by omega)
 have e3:IntKind.i64.wrap (1+(L:Int)-1)=(L:Int):=by rw[IntWalk.i64_in _ (by omega)];omega
 have e4:max (L:Int) 0=(L:Int):=by omega
 have e5:IntKind.u32.wrap (L:Int)=(L:Int):=IntWalk.u32_in _ (by omega)
 have e6:IntKind.i64.wrap (P+(1+(L:Int)))=P+(1+(L:Int)):=IntWalk.i64_in _ (by omega)
 have HV6:Hid (6<c.W):=hid (by omega)
 have HV7:Hid (7<c.W):=hid (by omega)
 have HN0:Hid ((0:Int)≤np):=hid (by omega)
 have HN1:Hid ((np:Int)≤4294967295):=hid (by omega)
 have HL0:Hid ((0:Int)≤L):=hid (by omega)
 have HL1:Hid ((L:Int)≤4294967295):=hid (by omega)
 have HP0:Hid (0≤P+(1+(L:Int))):=hid (by omega)
 have HP1:Hid (P+(1+(L:Int))≤4294967295):=hid (by omega)
 have HG:=hid hG
 have HH:=hid hh
 have HC1:=hid C1
 have HC2:=hid C2
 have HC3:=hid C3
 have HC4:=hid C4
 have HC5:=hid C5
 have H14:=hid h14
 have H6:=hid h6
 clear hG C1 C2 C3 C4 C5 h14 h6 hh hm hw hn hP0 hP1 hL hnp
 go_enter Tryz.func75,Tryz.ntmps75
 have HT0:Hid (Touch (inG p) w w):=hid (Touch.refl _ _)
 go_wp2_with fail
 refine(HC1.out p _ _ HG.out).mono ?_
 rintro e wm1 ⟨rfl,hG,hT⟩
 have HG1:=hid hG
 have HT1:Hid (Touch (inG p) _ wm1):=hid (HT0.out.trans hT)
 clear hG hT
 go_wp2_with fail
 refine(HC2.out p _ _ HG1.out).mono ?_
 rintro e wm2 ⟨rfl,hG,hT⟩
 have HG2:=hid hG
 have HT2:Hid (Touch (inG p) _ wm2):=hid (HT1.out.trans hT)
 clear hG hT
 go_wp2_with fail
 refine(gU p c _ 14 _ _ _ HG2.out (by omega) rfl H14.out).mono ?_
 rintro e wm3 ⟨rfl,hG,hT⟩
 have HG3:=hid hG
 have HT3:Hid (Touch (inG p) _ wm3):=hid (HT2.out.trans hT)
 clear hG hT
 go_wp2_with fail
 refine(aL p c _ 14 _ 0 _ HG3.out (by omega) rfl (by omega) (by omega)).mono ?_
 rintro e wm4 ⟨rfl,hG,hT⟩
 have HG4:=hid hG
 have HT4:Hid (Touch (inG p) _ wm4):=hid (HT3.out.trans hT)
 clear hG hT
 go_wp2_with fail
 refine(HC3.out p _ _ HG4.out).mono ?_
 rintro e wm5 ⟨rfl,hG,hT⟩
 have HG5:=hid hG
 have HT5:Hid (Touch (inG p) _ wm5):=hid (HT4.out.trans hT)
 clear hG hT
 go_wp2_with fail
 refine(HC4.out p _ _ HG5.out).mono ?_
 rintro e wm6 ⟨rfl,hG,hT⟩
 have HG6:=hid hG
 have HT6:Hid (Touch (inG p) _ wm6):=hid (HT5.out.trans hT)
 clear hG hT
 go_wp2_with fail
 refine(aH p c _ h 6 _ _ _ _ HG6.out HH.out HV6.out rfl rfl HN0.out HN1.out).mono ?_
 rintro e wm7 ⟨rfl,hG,hT⟩
 have HG7:=hid hG
 have HT7:Hid (Touch (inG p) _ wm7):=hid (HT6.out.trans hT)
 clear hG hT
 go_wp2_with fail
 refine(aH p c _ h 7 _ _ _ _ HG7.out HH.out HV7.out rfl rfl HL0.out HL1.out).mono ?_
 rintro e wm8 ⟨rfl,hG,hT⟩
 have HG8:=hid hG
 have HT8:Hid (Touch (inG p) _ wm8):=hid (HT7.out.trans hT)
 clear hG hT
 go_wp2_with fail
 refine(HC5.out p _ _ HG8.out).mono ?_
 rintro e wm9 ⟨rfl,hG,hT⟩
 have HG9:=hid hG
 have HT9:Hid (Touch (inG p) _ wm9):=hid (HT8.out.trans hT)
 clear hG hT
 go_wp2_with fail
 refine(gU p c _ 6 _ _ _ HG9.out (by omega) rfl H6.out).mono ?_
 rintro e wm10 ⟨rfl,hG,hT⟩
 have HG10:=hid hG
 have HT10:Hid (Touch (inG p) _ wm10):=hid (HT9.out.trans hT)
 clear hG hT
 go_wp2_with fail
 refine(aL p c _ 6 _ _ _ HG10.out (by omega) rfl HP0.out HP1.out).mono ?_
 rintro e wm11 ⟨rfl,hG,hT⟩
 have HG11:=hid hG
 have HT11:Hid (Touch (inG p) _ wm11):=hid (HT10.out.trans hT)
 clear hG hT
 go_wp2_with fail
 go_ret
 exact⟨rfl,HG11.out.fO rfl (by dsimp only[St.got,St.set];omega),HT11.out⟩
set_option maxHeartbeats 1000000 in
theorem zw{h np nd L:Nat}{b2:Bool}{P x:Int}(hm:c.May)(hh:h<c.N)(C1:Run c 134 [.int .i64 ((h:Int)+1)] zs d1 zs1 (.bool true))(C2:Run c 135 [.int .i64 (h:Int)] zs1 d2 zs2 (.bool b2))
  (h14:nth zs2 14=x) (hx:x≠(h:Int)+1) (C3:Run c 110 [.int .i64 ((h:Int)+1)] zs2 d3 zs2 (.tuple #[.int .i64 (np:Int),.int .i64 (nd:Int),.int .i64 0]))
  (C4:Run c 26 [.int .i64 ((h:Int)+1)] zs2 d4 zs2 (.int .i64 (1+(L:Int)))) (hnp:np≤100000) (hL:L≤1000)
  (C5:Run c 93 [.int .i64 1,.int .i64 (h:Int)] ((zs2.set (adr c h 6) np).set (adr c h 7) L) 6 (iQ c 1 h ((zs2.set (adr c h 6) np).set (adr c h 7) L)) (.bool true))
  (h6:nth (iQ c 1 h ((zs2.set (adr c h 6) np).set (adr c h 7) L)) 6=P) (hP0:0≤P) (hP1:P≤4294900000):
  Run c 75 [.int .i64 ((h:Int)+1)] zs (d1+d2+1+d3+d4+10) ((iQ c 1 h ((zs2.set (adr c h 6) np).set (adr c h 7) L)).set 6 (P+(1+(L:Int)))) (.bool true):=fun p m w hG=>by
 have hw:=hm.w
 have hn:=hm.n
 have e1:IntKind.i64.wrap ((h:Int)+1-1)=(h:Int):=by rw[IntWalk.i64_in _ (by omega)];omega
 have e1b:IntKind.i64.wrap (h:Int)=(h:Int):=IntWalk.i64_in _ (by omega)
 have e3b:IntKind.i64.wrap (L:Int)=(L:Int):=IntWalk.i64_in _ (by omega)
 have e2:IntKind.u32.wrap (np:Int)=(np:Int):=IntWalk.u32_in _ (by omega)
 have e3:IntKind.i64.wrap (1+(L:Int)-1)=(L:Int):=by rw[IntWalk.i64_in _ (by omega)];omega
 have e4:max (L:Int) 0=(L:Int):=by omega
 have e5:IntKind.u32.wrap (L:Int)=(L:Int):=IntWalk.u32_in _ (by omega)
 have e6:IntKind.i64.wrap (P+(1+(L:Int)))=P+(1+(L:Int)):=IntWalk.i64_in _ (by omega)
 have ex:(x==(h:Int)+1)=false:=neq_b hx
 have HV6:Hid (6<c.W):=hid (by omega)
 have HV7:Hid (7<c.W):=hid (by omega)
 have HN0:Hid ((0:Int)≤np):=hid (by omega)
 have HN1:Hid ((np:Int)≤4294967295):=hid (by omega)
 have HL0:Hid ((0:Int)≤L):=hid (by omega)
 have HL1:Hid ((L:Int)≤4294967295):=hid (by omega)
 have HP0:Hid (0≤P+(1+(L:Int))):=hid (by omega)
 have HP1:Hid (P+(1+(L:Int))≤4294967295):=hid (by omega)
 have HG:=hid hG
 have HH:=hid hh
 have HC1:=hid C1
 have HC2:=hid C2
 have HC3:=hid C3
 have HC4:=hid C4
 have HC5:=hid C5
 have H14:=hid h14
 have H6:=hid h6
 clear hG C1 C2 C3 C4 C5 h14 h6 hh hm hw hn hP0 hP1 hL hnp hx
 go_enter Tryz.func75,Tryz.ntmps75
 have HT0:Hid (Touch (inG p) w w):=hid (Touch.refl _ _)
 go_wp2_with fail
 refine(HC1.out p _ _ HG.out).mono ?_
 rintro e wm1 ⟨rfl,hG,hT⟩
 have HG1:=hid hG
 have HT1:Hid (Touch (inG p) _ wm1):=hid (HT0.out.trans hT)
 clear hG hT
 go_wp2_with fail
 refine(HC2.out p _ _ HG1.out).mono ?_
 rintro e wm2 ⟨rfl,hG,hT⟩
 have HG2:=hid hG
 have HT2:Hid (Touch (inG p) _ wm2):=hid (HT1.out.trans hT)
 clear hG hT
 go_wp2_with fail
 refine(gU p c _ 14 _ _ _ HG2.out (by omega) rfl H14.out).mono ?_
 rintro e wm3 ⟨rfl,hG,hT⟩
 have HG3:=hid hG
 have HT3:Hid (Touch (inG p) _ wm3):=hid (HT2.out.trans hT)
 clear hG hT
 go_wp2_with fail
 refine(HC3.out p _ _ HG3.out).mono ?_
 rintro e wm4 ⟨rfl,hG,hT⟩
 have HG4:=hid hG
 have HT4:Hid (Touch (inG p) _ wm4):=hid (HT3.out.trans hT)
 clear hG hT
 go_wp2_with fail
 refine(HC4.out p _ _ HG4.out).mono ?_
 rintro e wm5 ⟨rfl,hG,hT⟩
 have HG5:=hid hG
 have HT5:Hid (Touch (inG p) _ wm5):=hid (HT4.out.trans hT)
 clear hG hT
 go_wp2_with fail
 refine(aH p c _ h 6 _ _ _ _ HG5.out HH.out HV6.out rfl rfl HN0.out HN1.out).mono ?_
 rintro e wm6 ⟨rfl,hG,hT⟩
 have HG6:=hid hG
 have HT6:Hid (Touch (inG p) _ wm6):=hid (HT5.out.trans hT)
 clear hG hT
 go_wp2_with fail
 refine(aH p c _ h 7 _ _ _ _ HG6.out HH.out HV7.out rfl rfl HL0.out HL1.out).mono ?_
 rintro e wm7 ⟨rfl,hG,hT⟩
 have HG7:=hid hG
 have HT7:Hid (Touch (inG p) _ wm7):=hid (HT6.out.trans hT)
 clear hG hT
 go_wp2_with fail
 refine(HC5.out p _ _ HG7.out).mono ?_
 rintro e wm8 ⟨rfl,hG,hT⟩
 have HG8:=hid hG
 have HT8:Hid (Touch (inG p) _ wm8):=hid (HT7.out.trans hT)
 clear hG hT
 go_wp2_with fail
 refine(gU p c _ 6 _ _ _ HG8.out (by omega) rfl H6.out).mono ?_
 rintro e wm9 ⟨rfl,hG,hT⟩
 have HG9:=hid hG
 have HT9:Hid (Touch (inG p) _ wm9):=hid (HT8.out.trans hT)
 clear hG hT
 go_wp2_with fail
 refine(aL p c _ 6 _ _ _ HG9.out (by omega) rfl HP0.out HP1.out).mono ?_
 rintro e wm10 ⟨rfl,hG,hT⟩
 have HG10:=hid hG
 have HT10:Hid (Touch (inG p) _ wm10):=hid (HT9.out.trans hT)
 clear hG hT
 go_wp2_with fail
 go_ret
 exact⟨rfl,HG10.out.fO rfl (by dsimp only[St.got,St.set];omega),HT10.out⟩
theorem xe{r n:Int}(hn:n≠0)(C1:Run c 33 [.int .i64 r] zs d1 zs (.int .i64 n)):Run c 17 [.int .i64 r] zs d1 zs (.bool false):=fun p m w hG=>by
 have hb:(n==0)=false:=neq_b hn
 have HG:=hid hG
 have HC:=hid C1
 clear hG C1 hn
 go_enter Tryz.func17,Tryz.ntmps17
 have HT0:Hid (Touch (inG p) w w):=hid (Touch.refl _ _)
 go_wp2_with fail
 refine(HC.out p _ _ HG.out).mono ?_
 rintro e wm1 ⟨rfl,hG,hT⟩
 have HG1:=hid hG
 have HT1:Hid (Touch (inG p) _ wm1):=hid (HT0.out.trans hT)
 clear hG hT
 go_wp2_with fail
 go_ret
 exact⟨rfl,HG1.out,HT1.out⟩
theorem MI{r:Int}{b:Bool}(C1:Run c 33 [.int .i64 r] zs d1 zs (.int .i64 0))(C2:Run c 75 [.int .i64 r] zs d2 zs2 (.bool b)):Run c 17 [.int .i64 r] zs (d1+d2) zs2 (.bool b):=fun p m w hG=>by
 have HG:=hid hG
 have HC:=hid C1
 have HC2:=hid C2
 clear hG C1 C2
 go_enter Tryz.func17,Tryz.ntmps17
 have HT0:Hid (Touch (inG p) w w):=hid (Touch.refl _ _)
 go_wp2_with fail
 refine(HC.out p _ _ HG.out).mono ?_
 rintro e wm1 ⟨rfl,hG,hT⟩
 have HG1:=hid hG
 have HT1:Hid (Touch (inG p) _ wm1):=hid (HT0.out.trans hT)
 clear hG hT
 go_wp2_with fail
 refine(HC2.out p _ _ HG1.out).mono ?_
 rintro e wm2 ⟨rfl,hG,hT⟩
 have HG2:=hid hG
 have HT2:Hid (Touch (inG p) _ wm2):=hid (HT1.out.trans hT)
 clear hG hT
 go_wp2_with fail
 go_ret
 exact⟨rfl,HG2.out.fO rfl (by dsimp only;omega),HT2.out⟩
theorem xk{r i x:Int}(C1:Run c 70 [.int .i64 r,.int .i64 i] zs d1 zs (.tuple #[.int .i64 x,.int .i64 0]))(C2:Run c 71 [.int .i64 r,.int .i64 i,.int .i64 0] zs d2 zs2 (.int .i64 0))(C3:Run c 33 [.int .i64 x] zs2 d3 zs2 (.int .i64 0)):
  Run c 145 [.int .i64 r,.int .i64 i] zs (d1+d2+d3) zs2 (.tuple #[]):=fun p m w hG=>by
 have HG:=hid hG
 have HC:=hid C1
 have HC2:=hid C2
 have HC3:=hid C3
 clear hG C1 C2 C3
 go_enter Tryz.func145,Tryz.ntmps145
 have HT0:Hid (Touch (inG p) w w):=hid (Touch.refl _ _)
 go_wp2_with fail
 refine(HC.out p _ _ HG.out).mono ?_
 rintro e wm1 ⟨rfl,hG,hT⟩
 have HG1:=hid hG
 have HT1:Hid (Touch (inG p) _ wm1):=hid (HT0.out.trans hT)
 clear hG hT
 go_wp2_with fail
 refine(HC2.out p _ _ HG1.out).mono ?_
 rintro e wm2 ⟨rfl,hG,hT⟩
 have HG2:=hid hG
 have HT2:Hid (Touch (inG p) _ wm2):=hid (HT1.out.trans hT)
 clear hG hT
 go_wp2_with fail
 refine(HC3.out p _ _ HG2.out).mono ?_
 rintro e wm3 ⟨rfl,hG,hT⟩
 have HG3:=hid hG
 have HT3:Hid (Touch (inG p) _ wm3):=hid (HT2.out.trans hT)
 clear hG hT
 go_wp2_with fail
 go_end0
 exact⟨rfl,HG3.out.fO rfl (by dsimp only;omega),HT3.out⟩
def uL(c:Cf)(x:Int)(cb:Bool)(zs:List Int)(d:Nat)(zs':List Int):Prop:=(cb=true∧∃lb:Bool,Run c 188 [.int .i64 x] zs d zs' (.bool lb))∨(cb=false∧d=0∧zs'=zs)
theorem xh{r i x n k:Int}{cb:Bool}{d5 d6:Nat}{zs4:List Int}(C1:Run c 70 [.int .i64 r,.int .i64 i] zs d1 zs (.tuple #[.int .i64 x,.int .i64 0]))(C2:Run c 71 [.int .i64 r,.int .i64 i,.int .i64 0] zs d2 zs2 (.int .i64 0))(C3:Run c 33 [.int .i64 x] zs2 d3 zs2 (.int .i64 n))(hn:n≠0)(C4:Run c 123 [.int .i64 r,.int .i64 i] zs2 d4 zs1 (.bool cb))(C5:uL c x cb zs1 d5 zs3)(C6:Run c 111 [.int .i64 x] zs3 d6 zs4 (.tuple #[.int .i64 k,.bool true]))(hk:k≠0):
  Run c 145 [.int .i64 r,.int .i64 i] zs (d1+d2+d3+d4+d5+d6) zs4 (.tuple #[]):=fun p m w hG=>by
 have hb:(n==0)=false:=neq_b hn
 have hb2:(k==0)=false:=neq_b hk
 have HG:=hid hG
 have HC:=hid C1
 have HC2:=hid C2
 have HC3:=hid C3
 have HC4:=hid C4
 have HC6:=hid C6
 clear hG C1 C2 C3 C4 C6 hn hk
 rcases C5 with⟨rfl,lb,C5⟩|⟨rfl,rfl,rfl⟩
 ·have HC5:=hid C5
  clear C5
  go_enter Tryz.func145,Tryz.ntmps145
  have HT0:Hid (Touch (inG p) w w):=hid (Touch.refl _ _)
  go_wp2_with fail
  refine(HC.out p _ _ HG.out).mono ?_
  rintro e wm1 ⟨rfl,hG,hT⟩
  have HG1:=hid hG
  have HT1:Hid (Touch (inG p) _ wm1):=hid (HT0.out.trans hT)
  clear hG hT
  go_wp2_with fail
  refine(HC2.out p _ _ HG1.out).mono ?_
  rintro e wm2 ⟨rfl,hG,hT⟩
  have HG2:=hid hG
  have HT2:Hid (Touch (inG p) _ wm2):=hid (HT1.out.trans hT)
  clear hG hT
  go_wp2_with fail
  refine(HC3.out p _ _ HG2.out).mono ?_
  rintro e wm3 ⟨rfl,hG,hT⟩
  have HG3:=hid hG
  have HT3:Hid (Touch (inG p) _ wm3):=hid (HT2.out.trans hT)
  clear hG hT
  go_wp2_with fail
  refine(HC4.out p _ _ HG3.out).mono ?_
  rintro e wm4 ⟨rfl,hG,hT⟩
  have HG4:=hid hG
  have HT4:Hid (Touch (inG p) _ wm4):=hid (HT3.out.trans hT)
  clear hG hT
  go_wp2_with fail
  refine(HC5.out p _ _ HG4.out).mono ?_
  rintro e wm5 ⟨rfl,hG,hT⟩
  have HG5:=hid hG
  have HT5:Hid (Touch (inG p) _ wm5):=hid (HT4.out.trans hT)
  clear hG hT
  go_wp2_with fail
  refine(HC6.out p _ _ HG5.out).mono ?_
  rintro e wm6 ⟨rfl,hG,hT⟩
  have HG6:=hid hG
  have HT6:Hid (Touch (inG p) _ wm6):=hid (HT5.out.trans hT)
  clear hG hT
  go_wp2_with fail
  go_end0
  exact⟨rfl,HG6.out.fO rfl (by dsimp only;omega),HT6.out⟩
 ·go_enter Tryz.func145,Tryz.ntmps145
  have HT0:Hid (Touch (inG p) w w):=hid (Touch.refl _ _)
  go_wp2_with fail
  refine(HC.out p _ _ HG.out).mono ?_
  rintro e wm1 ⟨rfl,hG,hT⟩
  have HG1:=hid hG
  have HT1:Hid (Touch (inG p) _ wm1):=hid (HT0.out.trans hT)
  clear hG hT
  go_wp2_with fail
  refine(HC2.out p _ _ HG1.out).mono ?_
  rintro e wm2 ⟨rfl,hG,hT⟩
  have HG2:=hid hG
  have HT2:Hid (Touch (inG p) _ wm2):=hid (HT1.out.trans hT)
  clear hG hT
  go_wp2_with fail
  refine(HC3.out p _ _ HG2.out).mono ?_
  rintro e wm3 ⟨rfl,hG,hT⟩
  have HG3:=hid hG
  have HT3:Hid (Touch (inG p) _ wm3):=hid (HT2.out.trans hT)
  clear hG hT
  go_wp2_with fail
  refine(HC4.out p _ _ HG3.out).mono ?_
  rintro e wm4 ⟨rfl,hG,hT⟩
  have HG4:=hid hG
  have HT4:Hid (Touch (inG p) _ wm4):=hid (HT3.out.trans hT)
  clear hG hT
  go_wp2_with fail
  refine(HC6.out p _ _ HG4.out).mono ?_
  rintro e wm5 ⟨rfl,hG,hT⟩
  have HG5:=hid hG
  have HT5:Hid (Touch (inG p) _ wm5):=hid (HT4.out.trans hT)
  clear hG hT
  go_wp2_with fail
  go_end0
  exact⟨rfl,HG5.out.fO rfl (by dsimp only;omega),HT5.out⟩
theorem xg{r i x n:Int}{cb bb:Bool}{d5 d6 d7:Nat}{zs4 zs5:List Int}(C1:Run c 70 [.int .i64 r,.int .i64 i] zs d1 zs (.tuple #[.int .i64 x,.int .i64 0]))(C2:Run c 71 [.int .i64 r,.int .i64 i,.int .i64 0] zs d2 zs2 (.int .i64 0))(C3:Run c 33 [.int .i64 x] zs2 d3 zs2 (.int .i64 n))(hn:n≠0)(C4:Run c 123 [.int .i64 r,.int .i64 i] zs2 d4 zs1 (.bool cb))(C5:uL c x cb zs1 d5 zs3)(C6:Run c 111 [.int .i64 x] zs3 d6 zs4 (.tuple #[.int .i64 0,.bool true]))(C7:Run c 75 [.int .i64 x] zs4 d7 zs5 (.bool bb)):
  Run c 145 [.int .i64 r,.int .i64 i] zs (d1+d2+d3+d4+d5+d6+d7) zs5 (.tuple #[]):=fun p m w hG=>by
 have hb:(n==0)=false:=neq_b hn
 have HG:=hid hG
 have HC:=hid C1
 have HC2:=hid C2
 have HC3:=hid C3
 have HC4:=hid C4
 have HC6:=hid C6
 have HC7:=hid C7
 clear hG C1 C2 C3 C4 C6 C7 hn
 rcases C5 with⟨rfl,lb,C5⟩|⟨rfl,rfl,rfl⟩
 ·have HC5:=hid C5
  clear C5
  go_enter Tryz.func145,Tryz.ntmps145
  have HT0:Hid (Touch (inG p) w w):=hid (Touch.refl _ _)
  go_wp2_with fail
  refine(HC.out p _ _ HG.out).mono ?_
  rintro e wm1 ⟨rfl,hG,hT⟩
  have HG1:=hid hG
  have HT1:Hid (Touch (inG p) _ wm1):=hid (HT0.out.trans hT)
  clear hG hT
  go_wp2_with fail
  refine(HC2.out p _ _ HG1.out).mono ?_
  rintro e wm2 ⟨rfl,hG,hT⟩
  have HG2:=hid hG
  have HT2:Hid (Touch (inG p) _ wm2):=hid (HT1.out.trans hT)
  clear hG hT
  go_wp2_with fail
  refine(HC3.out p _ _ HG2.out).mono ?_
  rintro e wm3 ⟨rfl,hG,hT⟩
  have HG3:=hid hG
  have HT3:Hid (Touch (inG p) _ wm3):=hid (HT2.out.trans hT)
  clear hG hT
  go_wp2_with fail
  refine(HC4.out p _ _ HG3.out).mono ?_
  rintro e wm4 ⟨rfl,hG,hT⟩
  have HG4:=hid hG
  have HT4:Hid (Touch (inG p) _ wm4):=hid (HT3.out.trans hT)
  clear hG hT
  go_wp2_with fail
  refine(HC5.out p _ _ HG4.out).mono ?_
  rintro e wm5 ⟨rfl,hG,hT⟩
  have HG5:=hid hG
  have HT5:Hid (Touch (inG p) _ wm5):=hid (HT4.out.trans hT)
  clear hG hT
  go_wp2_with fail
  refine(HC6.out p _ _ HG5.out).mono ?_
  rintro e wm6 ⟨rfl,hG,hT⟩
  have HG6:=hid hG
  have HT6:Hid (Touch (inG p) _ wm6):=hid (HT5.out.trans hT)
  clear hG hT
  go_wp2_with fail
  refine(HC7.out p _ _ HG6.out).mono ?_
  rintro e wm7 ⟨rfl,hG,hT⟩
  have HG7:=hid hG
  have HT7:Hid (Touch (inG p) _ wm7):=hid (HT6.out.trans hT)
  clear hG hT
  go_wp2_with fail
  go_end0
  exact⟨rfl,HG7.out.fO rfl (by dsimp only;omega),HT7.out⟩
 ·go_enter Tryz.func145,Tryz.ntmps145
  have HT0:Hid (Touch (inG p) w w):=hid (Touch.refl _ _)
  go_wp2_with fail
  refine(HC.out p _ _ HG.out).mono ?_
  rintro e wm1 ⟨rfl,hG,hT⟩
  have HG1:=hid hG
  have HT1:Hid (Touch (inG p) _ wm1):=hid (HT0.out.trans hT)
  clear hG hT
  go_wp2_with fail
  refine(HC2.out p _ _ HG1.out).mono ?_
  rintro e wm2 ⟨rfl,hG,hT⟩
  have HG2:=hid hG
  have HT2:Hid (Touch (inG p) _ wm2):=hid (HT1.out.trans hT)
  clear hG hT
  go_wp2_with fail
  refine(HC3.out p _ _ HG2.out).mono ?_
  rintro e wm3 ⟨rfl,hG,hT⟩
  have HG3:=hid hG
  have HT3:Hid (Touch (inG p) _ wm3):=hid (HT2.out.trans hT)
  clear hG hT
  go_wp2_with fail
  refine(HC4.out p _ _ HG3.out).mono ?_
  rintro e wm4 ⟨rfl,hG,hT⟩
  have HG4:=hid hG
  have HT4:Hid (Touch (inG p) _ wm4):=hid (HT3.out.trans hT)
  clear hG hT
  go_wp2_with fail
  refine(HC6.out p _ _ HG4.out).mono ?_
  rintro e wm5 ⟨rfl,hG,hT⟩
  have HG5:=hid hG
  have HT5:Hid (Touch (inG p) _ wm5):=hid (HT4.out.trans hT)
  clear hG hT
  go_wp2_with fail
  refine(HC7.out p _ _ HG5.out).mono ?_
  rintro e wm6 ⟨rfl,hG,hT⟩
  have HG6:=hid hG
  have HT6:Hid (Touch (inG p) _ wm6):=hid (HT5.out.trans hT)
  clear hG hT
  go_wp2_with fail
  go_end0
  exact⟨rfl,HG6.out.fO rfl (by dsimp only;omega),HT6.out⟩
end
def jy(W:Nat)(l:Int):Int:=(if 0<l then l-1 else 0)*((W:Int)-1)
theorem vB(p:Pl)(c:Cf)(s:St)(l:Int)(w:World)(hG:G w p c s)(h0:0≤l)(h1:l≤1000):
  Calls Tryz.prog 144 #[.pointer (some ⟨p.a,0,none⟩),.int .i64 l] w fun e w'=>e=.returned (.int .i64 (jy c.W l))∧Below w.heap.size w w':=by
 have hw:=hG.may.w
 have e1:IntKind.i64.wrap (l-1)=l-1:=IntWalk.i64_in _ (by omega)
 obtain⟨q,hq⟩:∃q,q=(if 0<l then l-1 else 0):=⟨_,rfl⟩
 have e2:max (l-1) 0=q:=by rw[hq];split<;>omega
 have hq0:0≤q∧q≤1000:=by rw[hq];split<;>omega
 have e3:IntKind.i64.wrap ((c.W:Int)-1)=(c.W:Int)-1:=IntWalk.i64_in _ (by omega)
 have hb:0≤q*((c.W:Int)-1)∧q*((c.W:Int)-1)≤1000*256:=⟨Int.mul_nonneg hq0.1 (by omega),Int.mul_le_mul hq0.2 (by omega) (by omega) (by omega)⟩
 have e4:IntKind.i64.wrap (q*((c.W:Int)-1))=q*((c.W:Int)-1):=IntWalk.i64_in _ (by omega)
 have ea:jy c.W l=q*((c.W:Int)-1):=by unfold jy;rw[hq]
 have HE:=hid ea
 have HG:=hid hG
 have hf:=oG (c.N:Int) (c.W:Int) (c.R:Int) (c.K:Int)
 clear hG ea hq h0 h1 hq0 hb hw
 go_enter Tryz.func144,Tryz.ntmps144
 go_wp2_with fail
 refine(dE p c s _ HG.out).mono ?_
 rintro e w1 ⟨rfl,hb⟩
 have HB:=hid hb
 clear hb
 go_wp2_with fail
 go_ret
 exact⟨by rw[HE.out];rfl,HB.out⟩
section
variable {c:Cf} {zs zs1 zs2 zs3:List Int} {d1 d2 d3 d4:Nat}
set_option maxHeartbeats 1000000 in
theorem zy(C1:Run c 92 [.int .i64 1] zs d1 zs (.tuple #[.int .i64 0,.bool false])):Run c 79 [] zs d1 zs (.tuple #[.bool false,.bool false]):=fun p m w hG=>by
 have HG:=hid hG
 have HC:=hid C1
 clear hG C1
 go_enter Tryz.func79,Tryz.ntmps79
 have HT0:Hid (Touch (inG p) w w):=hid (Touch.refl _ _)
 go_wp2_with fail
 refine(HC.out p _ _ HG.out).mono ?_
 rintro e wm1 ⟨rfl,hG,hT⟩
 have HG1:=hid hG
 have HT1:Hid (Touch (inG p) _ wm1):=hid (HT0.out.trans hT)
 clear hG hT
 go_wp2_with fail
 go_ret2
 exact⟨rfl,HG1.out,HT1.out⟩
set_option maxHeartbeats 1000000 in
theorem xm{h:Nat}{f l:Int}(hm:c.May)(hh:h<c.N)(C1:Run c 92 [.int .i64 1] zs d1 zs (.tuple #[.int .i64 (h:Int),.bool true]))(h6:nth zs (adr c h 6)=f)(h7:nth zs (adr c h 7)=l)
  (hf0:0<f) (hf1:f≤1000000) (hl0:0≤l) (hl1:l≤1000) (ha:jy c.W l<f) (C2:Run c 145 [.int .i64 ((h:Int)+1),.int .i64 (f-1)] zs d2 zs2 (.tuple #[])):
  Run c 79 [] zs (d1+2+d2+1) (zs2.set (adr c h 6) (f-1)) (.tuple #[.bool false,.bool true]):=fun p m w hG=>by
 have hw:=hm.w
 have hn:=hm.n
 have HV6:Hid (6<c.W):=hid (by omega)
 have HV7:Hid (7<c.W):=hid (by omega)
 have e1:IntKind.i64.wrap f=f:=IntWalk.i64_in _ (by omega)
 have e2:IntKind.i64.wrap l=l:=IntWalk.i64_in _ (by omega)
 have e3:IntKind.i64.wrap ((h:Int)+1)=(h:Int)+1:=IntWalk.i64_in _ (by omega)
 have e4:IntKind.i64.wrap (f-1)=f-1:=IntWalk.i64_in _ (by omega)
 have e5:IntKind.u32.wrap (f-1)=f-1:=IntWalk.u32_in _ (by omega)
 have HF0:Hid (0≤f-1):=hid (by omega)
 have HF1:Hid (f-1≤4294967295):=hid (by omega)
 have HL0:=hid hl0
 have HL1:=hid hl1
 have H6:=hid h6
 have H7:=hid h7
 have HH:=hid hh
 have HG:=hid hG
 have HC:=hid C1
 have HC2:=hid C2
 clear hG C1 C2 h6 h7 hh hm hw hn hf0 hf1 hl0 hl1
 go_enter Tryz.func79,Tryz.ntmps79
 have HT0:Hid (Touch (inG p) w w):=hid (Touch.refl _ _)
 go_wp2_with fail
 refine(HC.out p _ _ HG.out).mono ?_
 rintro e wm1 ⟨rfl,hG,hT⟩
 have HG1:=hid hG
 have HT1:Hid (Touch (inG p) _ wm1):=hid (HT0.out.trans hT)
 clear hG hT
 go_wp2_with fail
 refine(fA p c _ h 6 _ _ _ _ HG1.out HH.out HV6.out rfl rfl H6.out).mono ?_
 rintro e wm2 ⟨rfl,hG,hT⟩
 have HG2:=hid hG
 have HT2:Hid (Touch (inG p) _ wm2):=hid (HT1.out.trans hT)
 clear hG hT
 go_wp2_with fail
 refine(fA p c _ h 7 _ _ _ _ HG2.out HH.out HV7.out rfl rfl H7.out).mono ?_
 rintro e wm3 ⟨rfl,hG,hT⟩
 have HG3:=hid hG
 have HT3:Hid (Touch (inG p) _ wm3):=hid (HT2.out.trans hT)
 clear hG hT
 go_wp2_with fail
 refine(vB p c _ l _ HG3.out HL0.out HL1.out).mono ?_
 rintro e wm4 ⟨rfl,hb⟩
 have HG4:=hid (HG3.out.later hb)
 have HT4:Hid (Touch (inG p) _ wm4):=hid (HT3.out.trans (Touch.of_below hb))
 clear hb
 go_wp2_with fail
 refine(HC2.out p _ _ HG4.out).mono ?_
 rintro e wm5 ⟨rfl,hG,hT⟩
 have HG5:=hid hG
 have HT5:Hid (Touch (inG p) _ wm5):=hid (HT4.out.trans hT)
 clear hG hT
 go_wp2_with fail
 refine(aH p c _ h 6 _ _ _ _ HG5.out HH.out HV6.out rfl rfl HF0.out HF1.out).mono ?_
 rintro e wm6 ⟨rfl,hG,hT⟩
 have HG6:=hid hG
 have HT6:Hid (Touch (inG p) _ wm6):=hid (HT5.out.trans hT)
 clear hG hT
 go_wp2_with fail
 go_ret2
 exact⟨rfl,HG6.out.fO rfl (by dsimp only[St.got,St.set];omega),HT6.out⟩
set_option maxHeartbeats 1000000 in
theorem zA{h:Nat}{f l P:Int}(hm:c.May)(hh:h<c.N)(C1:Run c 92 [.int .i64 1] zs d1 zs (.tuple #[.int .i64 (h:Int),.bool true]))(h6:nth zs (adr c h 6)=f)(h7:nth zs (adr c h 7)=l)
  (hf0:0≤f) (hf1:f≤1000000) (hl0:0<l) (hl1:l≤1000) (ha:¬jy c.W l<f) (C2:Run c 146 [.int .i64 ((h:Int)+1),.int .i64 (l-1)] zs d2 zs2 (.bool true))
  (hP:nth (zs2.set (adr c h 7) (l-1)) 6=P) (hP0:0<P) (hP1:P≤4294967295):
  Run c 79 [] zs (d1+2+d2+3) ((zs2.set (adr c h 7) (l-1)).set 6 (P-1)) (.tuple #[.bool true,.bool true]):=fun p m w hG=>by
 have hw:=hm.w
 have hn:=hm.n
 have HV6:Hid (6<c.W):=hid (by omega)
 have HV7:Hid (7<c.W):=hid (by omega)
 have e1:IntKind.i64.wrap f=f:=IntWalk.i64_in _ (by omega)
 have e2:IntKind.i64.wrap l=l:=IntWalk.i64_in _ (by omega)
 have e3:IntKind.i64.wrap ((h:Int)+1)=(h:Int)+1:=IntWalk.i64_in _ (by omega)
 have e4:IntKind.i64.wrap (l-1)=l-1:=IntWalk.i64_in _ (by omega)
 have e5:IntKind.u32.wrap (l-1)=l-1:=IntWalk.u32_in _ (by omega)
 have e6:IntKind.i64.wrap (P-1)=P-1:=IntWalk.i64_in _ (by omega)
 have HF0:Hid (0≤l-1):=hid (by omega)
 have HF1:Hid (l-1≤4294967295):=hid (by omega)
 have HP0:Hid (0≤P-1):=hid (by omega)
 have HP1:Hid (P-1≤4294967295):=hid (by omega)
 have HL0:Hid (0≤l):=hid (by omega)
 have HL1:=hid hl1
 have H6:=hid h6
 have H7:=hid h7
 have HP:=hid hP
 have HH:=hid hh
 have HG:=hid hG
 have HC:=hid C1
 have HC2:=hid C2
 clear hG C1 C2 h6 h7 hh hm hw hn hf0 hf1 hl1 hP hP0 hP1
 go_enter Tryz.func79,Tryz.ntmps79
 have HT0:Hid (Touch (inG p) w w):=hid (Touch.refl _ _)
 go_wp2_with fail
 refine(HC.out p _ _ HG.out).mono ?_
 rintro e wm1 ⟨rfl,hG,hT⟩
 have HG1:=hid hG
 have HT1:Hid (Touch (inG p) _ wm1):=hid (HT0.out.trans hT)
 clear hG hT
 go_wp2_with fail
 refine(fA p c _ h 6 _ _ _ _ HG1.out HH.out HV6.out rfl rfl H6.out).mono ?_
 rintro e wm2 ⟨rfl,hG,hT⟩
 have HG2:=hid hG
 have HT2:Hid (Touch (inG p) _ wm2):=hid (HT1.out.trans hT)
 clear hG hT
 go_wp2_with fail
 refine(fA p c _ h 7 _ _ _ _ HG2.out HH.out HV7.out rfl rfl H7.out).mono ?_
 rintro e wm3 ⟨rfl,hG,hT⟩
 have HG3:=hid hG
 have HT3:Hid (Touch (inG p) _ wm3):=hid (HT2.out.trans hT)
 clear hG hT
 go_wp2_with fail
 refine(vB p c _ l _ HG3.out HL0.out HL1.out).mono ?_
 rintro e wm4 ⟨rfl,hb⟩
 have HG4:=hid (HG3.out.later hb)
 have HT4:Hid (Touch (inG p) _ wm4):=hid (HT3.out.trans (Touch.of_below hb))
 clear hb
 go_wp2_with fail
 refine(HC2.out p _ _ HG4.out).mono ?_
 rintro e wm5 ⟨rfl,hG,hT⟩
 have HG5:=hid hG
 have HT5:Hid (Touch (inG p) _ wm5):=hid (HT4.out.trans hT)
 clear hG hT
 go_wp2_with fail
 refine(aH p c _ h 7 _ _ _ _ HG5.out HH.out HV7.out rfl rfl HF0.out HF1.out).mono ?_
 rintro e wm6 ⟨rfl,hG,hT⟩
 have HG6:=hid hG
 have HT6:Hid (Touch (inG p) _ wm6):=hid (HT5.out.trans hT)
 clear hG hT
 go_wp2_with fail
 refine(gU p c _ 6 _ _ _ HG6.out (by omega) rfl HP.out).mono ?_
 rintro e wm7 ⟨rfl,hG,hT⟩
 have HG7:=hid hG
 have HT7:Hid (Touch (inG p) _ wm7):=hid (HT6.out.trans hT)
 clear hG hT
 go_wp2_with fail
 refine(aL p c _ 6 _ _ _ HG7.out (by omega) rfl HP0.out HP1.out).mono ?_
 rintro e wm8 ⟨rfl,hG,hT⟩
 have HG8:=hid hG
 have HT8:Hid (Touch (inG p) _ wm8):=hid (HT7.out.trans hT)
 clear hG hT
 go_wp2_with fail
 go_ret2
 exact⟨rfl,HG8.out.fO rfl (by dsimp only[St.got,St.set];omega),HT8.out⟩
set_option maxHeartbeats 1000000 in
theorem BI{h:Nat}{f P:Int}(hm:c.May)(hh:h<c.N)(C1:Run c 92 [.int .i64 1] zs d1 zs (.tuple #[.int .i64 (h:Int),.bool true]))(h6:nth zs (adr c h 6)=f)(h7:nth zs (adr c h 7)=0)
  (hf0:0≤f) (hf1:f≤1000000) (ha:¬jy c.W 0<f) (C2:Run c 147 [.int .i64 1] zs d2 zs2 (.tuple #[.int .i64 (h:Int),.bool true])) (C3:Run c 148 [.int .i64 ((h:Int)+1)] zs2 d3 zs3 (.bool true))
  (hP:nth zs3 6=P) (hP0:0<P) (hP1:P≤4294967295):
  Run c 79 [] zs (d1+2+d2+d3+2) (zs3.set 6 (P-1)) (.tuple #[.bool true,.bool true]):=fun p m w hG=>by
 have hw:=hm.w
 have hn:=hm.n
 have HV6:Hid (6<c.W):=hid (by omega)
 have HV7:Hid (7<c.W):=hid (by omega)
 have e1:IntKind.i64.wrap f=f:=IntWalk.i64_in _ (by omega)
 have e3:IntKind.i64.wrap ((h:Int)+1)=(h:Int)+1:=IntWalk.i64_in _ (by omega)
 have e6:IntKind.i64.wrap (P-1)=P-1:=IntWalk.i64_in _ (by omega)
 have HP0:Hid (0≤P-1):=hid (by omega)
 have HP1:Hid (P-1≤4294967295):=hid (by omega)
 have H6:=hid h6
 have H7:=hid h7
 have HP:=hid hP
 have HH:=hid hh
 have HG:=hid hG
 have HC:=hid C1
 have HC2:=hid C2
 have HC3:=hid C3
 clear hG C1 C2 C3 h6 h7 hh hm hw hn hf0 hf1 hP hP0 hP1
 go_enter Tryz.func79,Tryz.ntmps79
 have HT0:Hid (Touch (inG p) w w):=hid (Touch.refl _ _)
 go_wp2_with fail
 refine(HC.out p _ _ HG.out).mono ?_
 rintro e wm1 ⟨rfl,hG,hT⟩
 have HG1:=hid hG
 have HT1:Hid (Touch (inG p) _ wm1):=hid (HT0.out.trans hT)
 clear hG hT
 go_wp2_with fail
 refine(fA p c _ h 6 _ _ _ _ HG1.out HH.out HV6.out rfl rfl H6.out).mono ?_
 rintro e wm2 ⟨rfl,hG,hT⟩
 have HG2:=hid hG
 have HT2:Hid (Touch (inG p) _ wm2):=hid (HT1.out.trans hT)
 clear hG hT
 go_wp2_with fail
 refine(fA p c _ h 7 _ _ _ _ HG2.out HH.out HV7.out rfl rfl H7.out).mono ?_
 rintro e wm3 ⟨rfl,hG,hT⟩
 have HG3:=hid hG
 have HT3:Hid (Touch (inG p) _ wm3):=hid (HT2.out.trans hT)
 clear hG hT
 go_wp2_with fail
 refine(vB p c _ 0 _ HG3.out (by omega) (by omega)).mono ?_
 rintro e wm4 ⟨rfl,hb⟩
 have HG4:=hid (HG3.out.later hb)
 have HT4:Hid (Touch (inG p) _ wm4):=hid (HT3.out.trans (Touch.of_below hb))
 clear hb
 go_wp2_with fail
 refine(HC2.out p _ _ HG4.out).mono ?_
 rintro e wm5 ⟨rfl,hG,hT⟩
 have HG5:=hid hG
 have HT5:Hid (Touch (inG p) _ wm5):=hid (HT4.out.trans hT)
 clear hG hT
 go_wp2_with fail
 refine(HC3.out p _ _ HG5.out).mono ?_
 rintro e wm6 ⟨rfl,hG,hT⟩
 have HG6:=hid hG
 have HT6:Hid (Touch (inG p) _ wm6):=hid (HT5.out.trans hT)
 clear hG hT
 go_wp2_with fail
 refine(gU p c _ 6 _ _ _ HG6.out (by omega) rfl HP.out).mono ?_
 rintro e wm7 ⟨rfl,hG,hT⟩
 have HG7:=hid hG
 have HT7:Hid (Touch (inG p) _ wm7):=hid (HT6.out.trans hT)
 clear hG hT
 go_wp2_with fail
 refine(aL p c _ 6 _ _ _ HG7.out (by omega) rfl HP0.out HP1.out).mono ?_
 rintro e wm8 ⟨rfl,hG,hT⟩
 have HG8:=hid hG
 have HT8:Hid (Touch (inG p) _ wm8):=hid (HT7.out.trans hT)
 clear hG hT
 go_wp2_with fail
 go_ret2
 exact⟨rfl,HG8.out.fO rfl (by dsimp only[St.got,St.set];omega),HT8.out⟩
theorem El{P:Int}(hP:nth zs 6=P):Run c 29 [] zs 1 zs (.int .i64 P):=fun p m w hG=>by
 have HG:=hid hG
 have HP:=hid hP
 clear hG hP
 go_enter Tryz.func29,Tryz.ntmps29
 have HT0:Hid (Touch (inG p) w w):=hid (Touch.refl _ _)
 go_wp2_with fail
 refine(gU p c _ 6 _ _ _ HG.out (by omega) rfl HP.out).mono ?_
 rintro e wm1 ⟨rfl,hG,hT⟩
 have HG1:=hid hG
 have HT1:Hid (Touch (inG p) _ wm1):=hid (HT0.out.trans hT)
 clear hG hT
 go_wp2_with fail
 go_ret
 exact⟨rfl,HG1.out,HT1.out⟩
end
section
variable {c:Cf} {D D':Wd} {zs zs':List Int} {t:Th} {r:Int}
theorem Ic(hf:D.find r=some t)(hd:t.mr.dead=true):D.kill r=D:=by
 obtain⟨i,hi,ht⟩:=jM hf
 unfold Wd.kill Wd.mark Wd.upd
 rw[Az hi ht,show({t with mr:={t.mr with dead:=true}}:Th)=t by rw[←hd],qQ ht]
theorem au.sizes(R:au c zs D)(hz:Wz c zs)(htl:t∈D.live):t.pt.length+t.dt.length≤100000∧t.lv.length≤248:=by
 obtain⟨p,w,hG⟩:=AL hz
 have h1:=Cn (s:=⟨zs,0⟩) hG R.heap (R.obMem htl)
 have h2:=(R.heap.obs t.ob (R.obMem htl)).Ij hz.may
 have hw:=hz.may.w
 have e:t.ob.lv.length=t.lv.length:=by unfold Th.ob;simp
 have e1:t.ob.np=t.pt.length:=rfl
 have e2:t.ob.nd=t.dt.length:=rfl
 omega
theorem OC(hz:Wz c zs)(R:au c zs D)(hf:D.find r=some t):∃zs' d b,d≤10∧Run c 135 [.int .i64 (t.h:Int)] zs d zs' (.bool b)∧au c zs' (D.lessRing t.h):=by
 obtain⟨h1,h2,h3,h4,h5⟩:=R.fJ hf
 by_cases hin:t.h∈D.ring
 ·exact⟨_,10,true,by omega,fun p m w hG=>vX p c ⟨zs,m⟩ t.h D.ring w hG R.ring hin,wI R hz hf hin⟩
 ·have hlt:=R.hlt (find_live hf).1
  have e:D.lessRing t.h=D:=by
   unfold Wd.lessRing
   rw[List.filter_eq_self.2 (fun x hx=>by simp;exact fun e=>hin (e▸hx))]
  refine⟨zs,_,false,?_,fun p m w hG=>yP p c ⟨zs,m⟩ (t.h:Int) (nth zs (adr c t.h 0)) w hG (oV hz.may hlt) (.inr ⟨lu h2,decide_eq_false (fun h=> ?_)⟩),by rw[e];exact R⟩
  ·have:=gD (az c (t.h:Int) 0);omega
  ·rw[R.ring.Qs hlt hin] at h
   exact absurd h (by decide)
theorem JZ(hz:Wz c zs)(R:au c zs D)(hr:In64 r):∃d,d≤2∧Run c 33 [.int .i64 r] zs d zs (.int .i64 (D.cnt r)):=by
 cases hf:D.find r with
 |none=>
  rw[show D.cnt r=0 by unfold Wd.cnt;rw[hf]]
  exact⟨_,by have:=gD (az c (prev r) 0);omega,fun p m w hG=>JF (s:=⟨zs,m⟩) hG R.heap hr (ib R hf)⟩
 |some t=>
  obtain⟨htl,rfl⟩:=find_live hf
  rw[show D.cnt ((t.h:Int)+1)=t.mr.refs by unfold Wd.cnt;rw[hf],←(R.own t htl).w3]
  exact⟨2,by omega,fun p m w hG=>GU (s:=⟨zs,m⟩) (o:=t.ob) hG R.heap (R.obMem htl)⟩
theorem au.Oj(R:au c zs D)(hz:Wz c zs)(htl:t∈D.live):0≤t.mr.refs∧t.mr.refs≤4294967295:=by
 rw[←(R.own t htl).w3]
 exact hz.wf _
theorem zt(hz:Wz c zs)(R:au c zs D)(hf:D.find r=some t)(h0:t.mr.refs≠0):∃zs',Run c 111 [.int .i64 r] zs 3 zs' (.tuple #[.int .i64 (t.mr.refs-1),.bool true])∧au c zs' (D.down r):=by
 obtain⟨htl,rfl⟩:=find_live hf
 have hb:=R.Oj hz htl
 have e3:=(R.own t htl).w3
 refine⟨zs.set (adr c t.h 3) (t.mr.refs-1),fun p m w hG=>zh (pE (s:=⟨zs,m⟩) (o:=t.ob) (-1) (t.mr.refs-1) hG R.heap (R.obMem htl) (by omega) (by omega) (by show nth zs (adr c t.h 3)+ -1=_;rw[e3];omega) (by omega) (by omega)) ⟨_,_,rfl⟩,?_⟩
 exact R.ja hz.may hz.len hf (v:=3) (.inl rfl) (x:=t.mr.refs-1) (f:=fun m=>{m with refs:=m.refs-1}) rfl
theorem yf(hz:Wz c zs)(R:au c zs D)(hf:D.find r=some t)(hd:t.mr.dead=true)(hn:t.h∉D.ring)(hg:t.h+1∉D.grave):
  Run c 110 [.int .i64 ((t.h:Int)+1)] zs 3 zs (.tuple #[.int .i64 (t.pt.length:Int),.int .i64 (t.dt.length:Int),.int .i64 0])∧Run c 26 [.int .i64 ((t.h:Int)+1)] zs 3 zs (.int .i64 (1+(t.lv.length:Int)))∧
  Run c 93 [.int .i64 1,.int .i64 (t.h:Int)] ((zs.set (adr c t.h 6) (t.pt.length:Int)).set (adr c t.h 7) (t.lv.length:Int)) 6 (iQ c 1 t.h ((zs.set (adr c t.h 6) (t.pt.length:Int)).set (adr c t.h 7) (t.lv.length:Int))) (.bool true)∧
  nth (iQ c 1 t.h ((zs.set (adr c t.h 6) (t.pt.length:Int)).set (adr c t.h 7) (t.lv.length:Int))) 6=D.pending∧
  au c ((iQ c 1 t.h ((zs.set (adr c t.h 6) (t.pt.length:Int)).set (adr c t.h 7) (t.lv.length:Int))).set 6 (D.pending+(1+(t.lv.length:Int)))) {(D.mark r (fun m=>{m with left:=(t.pt.length:Int)})).mark r (fun m=>{m with leaves:=(t.lv.length:Int)}) with grave:=D.grave++[t.h+1],pending:=D.pending+(1+(t.lv.length:Int))}:=by
 have hm:=hz.may
 have hw:=hm.w
 obtain⟨htl,hr⟩:=find_live hf
 have hlt:=R.hlt htl
 have hs:=R.sizes hz htl
 have elv:t.ob.lv.length=t.lv.length:=by unfold Th.ob;simp
 have R1:au c (zs.set (adr c t.h 6) (t.pt.length:Int)) (D.mark r (fun m=>{m with left:=(t.pt.length:Int)})):=R.Gs hm hz.len hf (v:=6) (.inl rfl) (by rw[if_pos rfl]) hn
 have hz1:Wz c (zs.set (adr c t.h 6) (t.pt.length:Int)):=hz.set _ (by omega) (by omega)
 have hf1:=mark_find (fun m=>{m with left:=(t.pt.length:Int)}) hf
 have R2:au c ((zs.set (adr c t.h 6) (t.pt.length:Int)).set (adr c t.h 7) (t.lv.length:Int)) ((D.mark r (fun m=>{m with left:=(t.pt.length:Int)})).mark r (fun m=>{m with leaves:=(t.lv.length:Int)})):=R1.Gs hm hz1.len hf1 (v:=7) (.inr rfl) (by rw[if_neg (by decide)]) hn
 have hz2:Wz c ((zs.set (adr c t.h 6) (t.pt.length:Int)).set (adr c t.h 7) (t.lv.length:Int)):=hz1.set _ (by omega) (by omega)
 have hf2:=mark_find (fun m=>{m with leaves:=(t.lv.length:Int)}) hf1
 have h67:adr c t.h 6≠adr c t.h 7:=fun e=>by have:=(ak (c:=c) (by omega) (by omega) e).2;omega
 have h6:nth ((zs.set (adr c t.h 6) (t.pt.length:Int)).set (adr c t.h 7) (t.lv.length:Int)) (adr c t.h 6)=(t.pt.length:Int):=by
  rw[aa (Ne.symm h67),aD (by rw[hz.len];exact eF hlt (by omega))]
 have h7:nth ((zs.set (adr c t.h 6) (t.pt.length:Int)).set (adr c t.h 7) (t.lv.length:Int)) (adr c t.h 7)=(t.lv.length:Int):=aD (by simp;rw[hz.len];exact eF hlt (by omega)) _
 have R3:=R2.Kc hm hz2.len hf2 hd h6 h7 hn hg
 have R4:=R3.Ad hm (by rw[jg];exact hz2.len) (D.pending+(1+(t.lv.length:Int)))
 refine⟨fun p m w hG=>nW (s:=⟨zs,m⟩) (o:=t.ob) hG R.heap (R.obMem htl),fun p m w hG=> ?_,fun p m w hG=> ?_,R3.r6,R4⟩
 ·have:=pK (s:=⟨zs,m⟩) (o:=t.ob) hG R.heap (R.obMem htl)
  rw[elv] at this
  exact this
 ·exact yh p c ⟨_,m⟩ 1 t.h (D.grave.map (· -1)) w hG R2.grave (by omega) hlt (fun h=>by
   obtain⟨q,hq,e⟩:=List.mem_map.1 h
   obtain⟨u,hu,e2⟩:=R.gv q hq
   have:t.h+1=q:=by omega
   exact hg (this▸hq))
theorem FR(hr:In64 r)(hp0:0≤D.pending)(hp1:D.pending≤4294900000):Does c D 75 [.int .i64 r] 40 (D.bury r) (.bool (D.buryB r)):=fun zs hz R=>by
 obtain⟨zs1,⟨d1,hd1,C1⟩,R1,hz1⟩:=(Ak c D r hr).at hz R
 cases hf:D.find r with
 |none=>
  rw[show((D.find r).isSome&& !D.dead r)=false by rw[hf];rfl] at C1
  rw[show D.kill r=D from bH _ hf] at R1
  rw[show D.buryB r=false by unfold Wd.buryB;rw[hf],show D.bury r=D by unfold Wd.bury;rw[hf]]
  exact⟨zs1,⟨d1,by omega,vC C1⟩,R1⟩
 |some t=>
  have ed:D.dead r=t.mr.dead:=by unfold Wd.dead;rw[hf]
  cases hd:t.mr.dead with
  |true=>
   rw[show((D.find r).isSome&& !D.dead r)=false by rw[hf,ed,hd];rfl] at C1
   rw[Ic hf hd] at R1
   rw[show D.buryB r=false by unfold Wd.buryB;rw[hf];simp[hd],show D.bury r=D by unfold Wd.bury;rw[hf];simp[hd]]
   exact⟨zs1,⟨d1,by omega,vC C1⟩,R1⟩
  |false=>
   rw[show((D.find r).isSome&& !D.dead r)=true by rw[hf,ed,hd];rfl] at C1
   rw[show D.buryB r=true by unfold Wd.buryB;rw[hf];simp[hd],show D.bury r=D.lay r t by unfold Wd.bury;rw[hf];simp[hd]]
   obtain⟨htl,hrr⟩:=find_live hf
   have hlt:=R.hlt htl
   have hs:=R.sizes hz htl
   have hs1:t.pt.length≤100000:=by omega
   have hs2:t.lv.length≤1000:=by omega
   have hf1:(D.kill r).find r=some {t with mr:={t.mr with dead:=true}}:=mark_find _ hf
   obtain⟨zs2,d2,b2,hd2,C2,R2⟩:=OC hz1 R1 hf1
   have hz2:Wz c zs2:=gB.wz hz1 ⟨d2,Nat.le_refl _,C2⟩
   have hng:t.h+1∉D.grave:=fun hg=>by
    have:=(R.bur t htl hg).1
    rw[hd] at this
    cases this
   have hnr:t.h∉D.ring.filter (fun b=>b !=t.h):=fun h=>by
    have:=(List.mem_filter.1 h).2
    simp at this
   have h14:nth zs2 14=D.scan:=R2.reg 14 (by omega) (by omega)
   subst hrr
   by_cases hx:D.scan=(t.h:Int)+1
   ·have R3:au c (zs2.set 14 0) {(D.kill ((t.h:Int)+1)).lessRing t.h with scan:=0}:=by
     refine R2.jC hz2.may hz2.len (k:=14) (by omega) (by omega) rfl rfl rfl rfl rfl rfl rfl rfl (fun j h1 h2 h3=> ?_) R.par
     have:j=10∨j=11∨j=12∨j=13∨j=15∨j=16∨j=17∨j=18:=by omega
     rcases this with rfl|rfl|rfl|rfl|rfl|rfl|rfl|rfl<;>rfl
    have hz3:Wz c (zs2.set 14 0):=hz2.set _ (by omega) (by omega)
    obtain⟨C3,C4,C5,h6,R4⟩:=yf hz3 R3 (t:={t with mr:={t.mr with dead:=true}}) hf1 rfl hnr hng
    refine⟨_,⟨_,?_,zx hz.may hlt C1 C2 (h14.trans hx) C3 C4 hs1 hs2 C5 h6 hp0 hp1⟩,?_⟩
    ·omega
    ·have e:D.lay ((t.h:Int)+1) t={(({(D.kill ((t.h:Int)+1)).lessRing t.h with scan:=0}:Wd).mark ((t.h:Int)+1) (fun m=>{m with left:=(t.pt.length:Int)})).mark ((t.h:Int)+1) (fun m=>{m with leaves:=(t.lv.length:Int)}) with grave:=D.grave++[t.h+1],pending:=D.pending+(1+(t.lv.length:Int))}:=by
      unfold Wd.lay
      rw[if_pos hx]
     rw[e]
     exact R4
   ·have e0:({(D.kill ((t.h:Int)+1)).lessRing t.h with scan:=D.scan}:Wd)=(D.kill ((t.h:Int)+1)).lessRing t.h:=rfl
    obtain⟨C3,C4,C5,h6,R4⟩:=yf hz2 R2 (t:={t with mr:={t.mr with dead:=true}}) hf1 rfl hnr hng
    refine⟨_,⟨_,?_,zw hz.may hlt C1 C2 h14 hx C3 C4 hs1 hs2 C5 h6 hp0 hp1⟩,?_⟩
    ·omega
    ·have e:D.lay ((t.h:Int)+1) t={(((D.kill ((t.h:Int)+1)).lessRing t.h).mark ((t.h:Int)+1) (fun m=>{m with left:=(t.pt.length:Int)})).mark ((t.h:Int)+1) (fun m=>{m with leaves:=(t.lv.length:Int)}) with grave:=D.grave++[t.h+1],pending:=D.pending+(1+(t.lv.length:Int))}:=by
      unfold Wd.lay
      rw[if_neg hx]
      rfl
     rw[e]
     exact R4
theorem BH(hr:In64 r)(hp0:0≤D.pending)(hp1:D.pending≤4294900000):Does c D 17 [.int .i64 r] 42 (D.inter r) (.bool (D.Kj r)):=fun zs hz R=>by
 obtain⟨d1,hd1,C1⟩:=JZ hz R hr
 unfold Wd.inter Wd.Kj
 by_cases h0:D.cnt r=0
 ·rw[h0] at C1
  obtain⟨zs2,⟨d2,hd2,C2⟩,R2⟩:=FR (c:=c) hr hp0 hp1 zs hz R
  rw[if_pos h0,decide_eq_true h0,Bool.true_and]
  exact⟨zs2,⟨d1+d2,by omega,MI C1 C2⟩,R2⟩
 ·rw[if_neg h0,decide_eq_false h0,Bool.false_and]
  exact⟨zs,⟨d1,by omega,xe h0 C1⟩,R⟩
theorem oQ{i:Nat}{x:Int}(q:Int):(D.setP r i x).find q=(D.find q).map (fun t=>if t.at r then {t with pt:=t.pt.set i x} else t):=nQ (g:=fun t=>{t with pt:=t.pt.set i x}) (fun t=>⟨rfl,rfl⟩) q
theorem qy(q:Int):∀t,D.find q=some t→∃f:Mrk→Mrk,(D.ah r).find q=some {t with mr:=f t.mr}∧(f t.mr).refs=t.mr.refs∧(f t.mr).dead=t.mr.dead∧(f t.mr).left=t.mr.left∧(f t.mr).leaves=t.mr.leaves:=fun t hf=>by
 unfold Wd.ah
 split
 ·rw[find_mark,hf]
  by_cases e:t.at r=true
  ·exact⟨fun m=>{m with shadow:=m.shadow-1},by simp[e],rfl,rfl,rfl,rfl⟩
  ·exact⟨id,by simp[e],rfl,rfl,rfl,rfl⟩
 ·exact⟨id,by simpa using hf,rfl,rfl,rfl,rfl⟩
theorem iK(x:Int):(D.ah x).pending=D.pending∧(D.ah x).grave=D.grave∧(D.ah x).ring=D.ring∧(D.ah x).scan=D.scan∧(D.ah x).clean=D.clean∧(D.ah x).n=D.n∧(D.ah x).w=D.w:=by
 unfold Wd.ah
 split<;>exact⟨rfl,rfl,rfl,rfl,rfl,rfl,rfl⟩
theorem qN(hz:Wz c zs)(R:au c zs D)(hr:In64 r)(hf:D.find r=some t){i a:Nat}(hi:i<t.pt.length)(ha:aS c t.ob i=some a):(∃d,d≤12∧Run c 70 [.int .i64 r,.int .i64 (i:Int)] zs d zs (.tuple #[.int .i64 (nth t.pt i),.int .i64 0]))∧0≤nth t.pt i∧nth t.pt i≤4294967295:=by
 obtain⟨htl,_⟩:=find_live hf
 have hob:=obAt_find R r
 rw[hf] at hob
 have hv:=R.yo t htl i a (by unfold Th.ob Ob.f;simp;omega) ha
 have hfl:t.yo i=nth t.pt i:=by unfold Th.yo;rw[if_pos hi]
 have e1:qM c zs D.obs r (i:Int)=nth t.pt i:=by
  unfold qM
  rw[hob]
  show(if kD (i:Int) t.ob.np then gq c zs t.ob (i:Int).toNat else 0)=_
  rw[if_pos (iV (show i<t.ob.np from hi)),Int.toNat_natCast]
  unfold gq
  rw[ha,←hfl]
  exact hv
 have e2:qL c D.obs r (i:Int)=0:=by
  unfold qL
  rw[hob]
  show(if kD (i:Int) t.ob.np&&(aS c t.ob (i:Int).toNat).isSome then(0:Int) else 7)=0
  rw[iV (show i<t.ob.np from hi),Int.toNat_natCast,ha]
  rfl
 obtain⟨d,hd,C⟩:=objFns.ptr c zs D.clean D.obs r (i:Int) hz R.heap hr
 rw[e1,e2] at C
 refine⟨⟨d,hd,C⟩,?_⟩
 rw[←hfl,←hv]
 exact hz.wf a
theorem mO(hz:Wz c zs)(R:au c zs D)(hf:D.find r=some t){i a:Nat}(hi:i<t.pt.length)(ha:aS c t.ob i=some a){x:Int}(h0:0≤x)(h1:x≤(c.N:Int)):(∃d,d≤12∧Run c 71 [.int .i64 r,.int .i64 (i:Int),.int .i64 x] zs d (zs.set a x) (.int .i64 0))∧au c (zs.set a x) (D.setP r i x)∧Wz c (zs.set a x):=by
 obtain⟨htl,rfl⟩:=find_live hf
 have hn:=hz.may.n
 obtain⟨d,hd,C⟩:=objFns.setptr_yes c zs D.clean D.obs t.ob i a x hz R.heap (R.obMem htl) hi ha h0 h1
 exact⟨⟨d,hd,C⟩,R.PN hz.may hz.len hf hi ha x,hz.set _ h0 (by omega)⟩
theorem JX(hf:D.find r=some t){i a:Nat}(hi:i<t.pt.length)(ha:aS c t.ob i=some a)(hp0:0≤D.pending)(hp1:D.pending≤4294900000):Does c D 145 [.int .i64 r,.int .i64 (i:Int)] 84 (D.drain r i (nth t.pt i)) (.tuple #[]):=fun zs hz R=>by
 have hr:In64 r:=by
  obtain⟨htl,rfl⟩:=find_live hf
  exact R.heap.xn hz.may (R.obMem htl)
 obtain⟨⟨d1,hd1,C1⟩,hx0,hx1⟩:=qN hz R hr hf hi ha
 obtain⟨⟨d2,hd2,C2⟩,R2,hz2⟩:=mO hz R hf hi ha (x:=0) (Int.le_refl 0) (by omega)
 generalize hx:nth t.pt i=x at C1 hx0 hx1
 have hxr:In64 x:=by unfold In64;omega
 obtain⟨d3,hd3,C3⟩:=JZ hz2 R2 hxr
 unfold Wd.drain
 by_cases hc:(D.setP r i 0).cnt x=0
 ·rw[if_pos hc]
  rw[hc] at C3
  exact⟨_,⟨d1+d2+d3,by omega,xk C1 C2 C3⟩,R2⟩
 ·rw[if_neg hc]
  cases hu:(D.setP r i 0).find x with
  |none=>exact absurd (by unfold Wd.cnt;rw[hu]) hc
  |some u=>
   have hcu:(D.setP r i 0).cnt x=u.mr.refs:=by unfold Wd.cnt;rw[hu]
   obtain⟨zs3,⟨d4,hd4,C4⟩,R3,hz3⟩:=(nE c (D.setP r i 0) r (i:Int) hr).at hz2 R2
   have K:∃(D3:Wd) (zs4:List Int) (d5:Nat) (u3:Th),D3=(if(D.setP r i 0).counted r i then(D.setP r i 0).ah x else D.setP r i 0)∧d5≤9∧uL c x ((D.setP r i 0).counted r i) zs3 d5 zs4∧au c zs4 D3∧Wz c zs4∧D3.find x=some u3∧u3.mr.refs=u.mr.refs∧D3.pending=D.pending:=by
    cases hcb:(D.setP r i 0).counted r i with
    |true=>
     obtain⟨zs4,⟨d5,hd5,C5⟩,R4,hz4⟩:=(uj c (D.setP r i 0) x hxr).at hz3 R3
     obtain⟨f,hf3,e1,_⟩:=qy (D:=D.setP r i 0) (r:=x) x u hu
     exact⟨_,zs4,d5,_,by rw[if_pos rfl],by omega,.inl ⟨rfl,_,C5⟩,R4,hz4,hf3,e1,(iK x).1⟩
    |false=>exact⟨_,zs3,0,u,by rw[if_neg (by decide)],by omega,.inr ⟨rfl,rfl,rfl⟩,R3,hz3,hu,rfl,rfl⟩
   obtain⟨D3,zs4,d5,u3,hD3,hd5,C5,R4,hz4,hu3,e3,ep⟩:=K
   rw[←hD3]
   have hn0:u3.mr.refs≠0:=by rw[e3,←hcu];exact hc
   obtain⟨zs5,C6,R5⟩:=zt hz4 R4 hu3 hn0
   have hz5:Wz c zs5:=gB.wz hz4 ⟨3,Nat.le_refl _,C6⟩
   have hcd:(D3.down x).cnt x=u3.mr.refs-1:=by unfold Wd.cnt Wd.down;rw[mark_find _ hu3]
   show ∃zs',gB c _ _ zs 84 zs' _∧au c zs' (if(D3.down x).cnt x=0 then(D3.down x).bury x else D3.down x)
   by_cases hk:u3.mr.refs-1=0
   ·rw[hcd,if_pos hk]
    rw[hk] at C6
    obtain⟨zs6,⟨d7,hd7,C7⟩,R6⟩:=FR (c:=c) (D:=D3.down x) hxr (by show 0≤D3.pending;rw[ep];exact hp0) (by show D3.pending≤_;rw[ep];exact hp1) zs5 hz5 R5
    exact⟨zs6,⟨d1+d2+d3+d4+d5+3+d7,by omega,xg C1 C2 C3 hc C4 C5 C6 C7⟩,R6⟩
   ·rw[hcd,if_neg hk]
    exact⟨zs5,⟨d1+d2+d3+d4+d5+3,by omega,xh C1 C2 C3 hc C4 C5 C6 hk⟩,R5⟩
end
section
variable {c:Cf} {D D':Wd} {zs zs':List Int} {t s:Th} {r:Int}
theorem GM{q:Int}(hf:D.find q=some t)(hd:t.mr.dead=true)(x:Int):(D.bury x).find q=some t:=by
 unfold Wd.bury
 cases hx:D.find x with
 |none=>exact hf
 |some u=>
  simp only
  cases hu:u.mr.dead with
  |true=>simpa using hf
  |false=>
   simp only[Bool.false_eq_true,if_false]
   have hts:=gK (D:=D) x u
   show aP q (D.lay x u).ts=some t
   rw[hts,oZ (g:=fun s=>{s with mr:={s.mr with dead:=true,left:=(u.pt.length:Int),leaves:=(u.lv.length:Int)}}) (fun t=>⟨rfl,rfl⟩)]
   have hf':aP q D.ts=some t:=hf
   rw[hf']
   have:¬t.at x=true:=fun h=>by
    have e1:=find_at hf
    have e2:=find_at hx
    unfold Th.at at h
    simp at h
    have:q=x:=by omega
    subst this
    rw[hf] at hx
    cases hx
    rw[hd] at hu
    cases hu
   simp[this]
theorem GN(x:Int){b:Nat}(h:b∈(D.bury x).ring):b∈D.ring:=by
 unfold Wd.bury at h
 cases hx:D.find x with
 |none=>rw[hx] at h;exact h
 |some u=>
  rw[hx] at h
  simp only at h
  split at h
  ·exact h
  ·exact(List.mem_filter.1 (show b∈D.ring.filter (fun b=>b !=u.h) from h)).1
theorem rF(x:Int):(D.bury x).clean=D.clean∧(D.bury x).n=D.n∧(D.bury x).w=D.w:=by
 unfold Wd.bury
 cases D.find x with
 |none=>exact⟨rfl,rfl,rfl⟩
 |some u=>
  simp only
  split
  ·exact⟨rfl,rfl,rfl⟩
  ·exact⟨rfl,rfl,rfl⟩
theorem uY(hf:D.find r=some t)(hd:t.mr.dead=true)(i:Nat)(x:Int):∃f:Mrk→Mrk,(D.drain r i x).find r=some {t with pt:=t.pt.set i 0,mr:=f t.mr}∧(f t.mr).dead=true∧(f t.mr).left=t.mr.left∧(f t.mr).leaves=t.mr.leaves:=by
 have hf1:(D.setP r i 0).find r=some {t with pt:=t.pt.set i 0}:=by rw[oQ,hf];simp[find_at_r hf]
 have key:∀D2:Wd,∀u:Th,D2.find r=some u→u.mr.dead=true→∃f:Mrk→Mrk,(if(D2.down x).cnt x=0 then(D2.down x).bury x else D2.down x).find r=some {u with mr:=f u.mr}∧(f u.mr).dead=true∧(f u.mr).left=u.mr.left∧(f u.mr).leaves=u.mr.leaves:=fun D2 u hu hdu=>by
  have h1:∃f:Mrk→Mrk,(D2.down x).find r=some {u with mr:=f u.mr}∧(f u.mr).dead=true∧(f u.mr).left=u.mr.left∧(f u.mr).leaves=u.mr.leaves:=by
   unfold Wd.down
   rw[find_mark,hu]
   by_cases e:u.at x=true
   ·exact⟨fun m=>{m with refs:=m.refs-1},by simp[e],hdu,rfl,rfl⟩
   ·exact⟨id,by simp[e],hdu,rfl,rfl⟩
  obtain⟨f,h1,h2,h3,h4⟩:=h1
  refine⟨f,?_,h2,h3,h4⟩
  split
  ·exact GM h1 h2 x
  ·exact h1
 unfold Wd.drain
 by_cases hc:(D.setP r i 0).cnt x=0
 ·rw[if_pos hc];exact⟨id,hf1,hd,rfl,rfl⟩
 ·rw[if_neg hc]
  have h2:∃f:Mrk→Mrk,(if(D.setP r i 0).counted r i then(D.setP r i 0).ah x else D.setP r i 0).find r=some {t with pt:=t.pt.set i 0,mr:=f t.mr}∧(f t.mr).dead=true∧(f t.mr).left=t.mr.left∧(f t.mr).leaves=t.mr.leaves:=by
   split
   ·obtain⟨f,h1,_,h3,h4,h5⟩:=qy (D:=D.setP r i 0) (r:=x) r _ hf1
    exact⟨f,h1,h3.trans hd,h4,h5⟩
   ·exact⟨id,hf1,hd,rfl,rfl⟩
  obtain⟨f,h1,h3,h4,h5⟩:=h2
  obtain⟨f2,k1,k3,k4,k5⟩:=key _ _ h1 h3
  exact⟨fun m=>f2 (f m),k1,k3,k4.trans h4,k5.trans h5⟩
theorem Ee(i:Nat)(x:Int){b:Nat}(h:b∈(D.drain r i x).ring):b∈D.ring:=by
 unfold Wd.drain at h
 by_cases hc:(D.setP r i 0).cnt x=0
 ·rw[if_pos hc] at h;exact h
 ·rw[if_neg hc] at h
  have e2:(if(D.setP r i 0).counted r i then(D.setP r i 0).ah x else D.setP r i 0).ring=D.ring:=by
   split
   ·exact(iK (D:=D.setP r i 0) x).2.2.1
   ·rfl
  simp only at h
  have h':b∈((if(D.setP r i 0).counted r i then(D.setP r i 0).ah x else D.setP r i 0).down x).ring:=by
   by_cases h0:((if(D.setP r i 0).counted r i then(D.setP r i 0).ah x else D.setP r i 0).down x).cnt x=0
   ·rw[if_pos h0] at h;exact GN x h
   ·rw[if_neg h0] at h;exact h
  have h'':b∈(if(D.setP r i 0).counted r i then(D.setP r i 0).ah x else D.setP r i 0).ring:=h'
  rw[e2] at h''
  exact h''
theorem iH:∀(l:List Int) (k:Nat),k≤l.length→(∀j,j<k→∃b:Nat,l[j]? =some (b:Int))→(∀j,k≤j→j<l.length→l[j]? =some (-1))→((l.map (fun x=>(x+1).toNat)).filterMap (fun n=>if n=0 then none else some (n-1))).length=k
 |[],k,hk,_,_=>by simp at hk;simp[hk]
 |a::l,0,_,_,h2=>by
  have h0:=h2 0 (by omega) (by simp)
  simp at h0
  subst h0
  have:=iH l 0 (by omega) (fun j hj=>absurd hj (by omega)) (fun j _ hj=>by simpa using h2 (j+1) (by omega) (by simpa using hj))
  simpa using this
 |a::l,k+1,hk,h1,h2=>by
  obtain⟨b,hb⟩:=h1 0 (by omega)
  simp at hb
  subst hb
  have:=iH l k (by simpa using hk) (fun j hj=>by simpa using h1 (j+1) (by omega)) (fun j hj hj2=>by simpa using h2 (j+1) (by omega) (by simpa using hj2))
  rw[List.map_cons,List.filterMap_cons]
  have e:((b:Int)+1).toNat=b+1:=by omega
  rw[e]
  simp only[Nat.add_eq_zero_iff,Nat.one_ne_zero,and_false,if_false,List.length_cons]
  rw[this]
theorem Qm.Ry{w:Nat}{gr:List Nat}(k:Qm w gr t):t.ob.blocks.length=occT t:=by
 unfold Ob.blocks Ob.leaves Th.ob occT
 rw[List.length_cons]
 cases hd:t.mr.dead with
 |true=>
  have d:=k.dead hd
  rw[if_pos rfl,iH t.lv t.mr.leaves.toNat (by have:=d.l0;have:=d.l1;omega) (fun j hj=>d.there j (by omega)) (fun j hj hj2=>d.gone j (by have:=d.l0;omega) hj2)]
  omega
 |false=>
  have a:=k.alive hd
  rw[if_neg (by decide),iH t.lv t.lv.length (Nat.le_refl _) (fun j hj=>a j hj) (fun j hj hj2=>absurd hj2 (by omega))]
  omega
theorem BD:∀l:List Th,(l.map Th.ob |>.flatMap Ob.blocks).length=(l.map (fun t=>t.ob.blocks.length)).sum
 |[]=>rfl
 |u::l=>by simp[BD l]
theorem San.total(S:San D)(R:au c zs D):D.clean.length+aj occT D.ts=c.N:=by
 have h:=R.heap.perm.length_eq
 rw[List.length_append,List.length_range] at h
 have e:(D.obs.flatMap Ob.blocks).length=aj occT D.ts:=by
  have h1:D.obs.flatMap Ob.blocks=(D.live.map Th.ob).flatMap Ob.blocks:=rfl
  rw[h1,BD]
  unfold aj
  congr 1
  exact List.map_congr_left (fun t ht=>(S.ok t ht).Ry)
 omega
theorem KI(t:Th):bU t≤occT t:=by unfold bU occT;split<;>omega
theorem San.vT(S:San D)(R:au c zs D)(hm:c.May):0≤D.pending∧D.pending≤1048576:=by
 have h1:=S.total R
 have h2:=qX (φ:=bU) (ψ:=occT) (l:=D.ts) (fun t _=>KI t)
 have h3:=S.pend
 have h4:=hm.n
 omega
theorem San.Ng(S:San D)(ht:t∈D.live)(hd:t.mr.dead=true):0<D.pending:=by
 have h1:=qY (φ:=bU) ht
 have h2:1≤bU t:=by unfold bU;rw[hd,if_pos rfl];omega
 have:=S.pend
 have h3:aj bU D.ts=aj bU D.ts:=rfl
 unfold Wd.live at ht
 omega
theorem QT.field{w:Nat}(hm:c.May)(hw:c.W=w)(d:QT w t)(g:Geo w t){i:Nat}(hi:(i:Int)<t.mr.left):i<t.pt.length∧∃a,aS c t.ob i=some a:=by
 have hW:=hm.w
 have h1:i<t.pt.length:=by have:=d.f1;omega
 refine⟨h1,?_⟩
 have ef:t.ob.f=t.pt.length+t.dt.length:=rfl
 by_cases hs:t.ob.f≤c.W-8
 ·exact⟨_,by unfold aS;rw[jE hs];rfl⟩
 ·have hb:=(g.big (by rw[←hw];omega)).1
  have hl:=d.fl hb
  have hq:(i/(c.W-1):Nat)<t.mr.leaves.toNat:=by
   rw[Nat.div_lt_iff_lt_mul (by omega)]
   have e:((t.mr.leaves.toNat*(c.W-1):Nat):Int)=t.mr.leaves*((w:Int)-1):=by
    rw[Int.natCast_mul,Int.toNat_of_nonneg d.l0]
    congr 1
    omega
   omega
  obtain⟨b,hb⟩:=d.there (i/(c.W-1)) (by have:=d.l0;omega)
  exact⟨_,by unfold aS;rw[jV hs (Gc hb)];rfl⟩
theorem Ml(R:au c zs D)(l:Int):D.ahead l=jy c.W l:=by unfold Wd.ahead jy;rw[R.w]
theorem GZ{k:Nat}(R:au c zs D){g:Nat}{rest:List Nat}(hg:D.grave=g::rest)(hk:k=g-1):Run c 92 [.int .i64 1] zs 1 zs (.tuple #[.int .i64 (k:Int),.bool true]):=fun p m w hG=>by
 have hC:=R.grave
 rw[hg,List.map_cons,←hk] at hC
 exact Bf p c ⟨zs,m⟩ 1 k (rest.map (· -1)) w hG hC (by omega)
set_option maxHeartbeats 1000000 in
theorem Mx(S:San D):Does c D 79 [] 90 D.step (.tuple #[.bool D.gives,.bool (!D.grave.isEmpty)]):=fun zs hz R=>by
 have hm:=hz.may
 have hw:=hm.w
 unfold Wd.step Wd.gives
 cases hg:D.grave with
 |nil=>
  have hC:=R.grave
  rw[hg] at hC
  exact⟨zs,⟨_,by show QV 1≤90;decide,zy (fun p m w hG=>sW p c ⟨zs,m⟩ 1 w hG (.inr ⟨1,rfl,by omega,hC⟩))⟩,R⟩
 |cons g rest=>
  obtain⟨t,htl,e⟩:=S.gv g (by rw[hg];simp)
  have hf:D.find (g:Int)=some t:=by have:=R.findIt htl;rwa[show((t.h:Int)+1)=(g:Int) by omega] at this
  have hk:=S.ok t htl
  have hd:t.mr.dead=true:=hk.iff_.2 (by rw[e,hg];simp)
  have d:=hk.dead hd
  have hgm:t.h+1∈D.grave:=by rw[e,hg];simp
  obtain⟨_,b6,b7,bn⟩:=R.bur t htl hgm
  have hs:=R.sizes hz htl
  have hlt:=R.hlt htl
  have hge:(g:Int)=(t.h:Int)+1:=by omega
  have C1:=GZ R hg (k:=t.h) (by omega)
  have hpb:=S.vT R hm
  have hpp:=S.Ng htl hd
  have hpl:D.pending≤4294967295:=by omega
  simp only[hf]
  rw[hge] at hf
  have hl0:=d.l0
  have hl1:=d.l1
  have hf0:=d.f0
  have hf1:=d.f1
  unfold Wd.work
  rw[hge,Ml R]
  by_cases ha:jy c.W t.mr.leaves<t.mr.left
  ·have ha0:0≤jy c.W t.mr.leaves:=by
    unfold jy
    refine Int.mul_nonneg ?_ (by omega)
    split<;>omega
   rw[if_pos ha,decide_eq_true ha]
   have hi:(((t.mr.left-1).toNat:Nat):Int)<t.mr.left:=by omega
   obtain⟨hip,a,haa⟩:=d.field hm R.w.symm hk.tC hi
   obtain⟨zs2,⟨d2,hd2,C2⟩,R2,hz2⟩:=(JX (c:=c) hf hip haa hpb.1 (by omega)).at hz R
   obtain⟨f,hf2,k1,k2,k3⟩:=uY hf hd (t.mr.left-1).toNat (nth t.pt (t.mr.left-1).toNat)
   rw[show(((t.mr.left-1).toNat:Nat):Int)=t.mr.left-1 by omega] at C2
   have R3:=R2.Gs hm hz2.len hf2 (v:=6) (.inl rfl) (x:=t.mr.left-1) (f:=fun m=>{m with left:=t.mr.left-1}) (by rw[if_pos rfl]) (fun h=>bn (Ee _ _ h))
   exact⟨_,⟨1+2+d2+1,by omega,xm hm hlt C1 b6 b7 (by omega) (by omega) hl0 (by omega) ha C2⟩,R3⟩
  ·rw[if_neg ha,decide_eq_false ha]
   by_cases hl:0<t.mr.leaves
   ·rw[if_pos hl]
    obtain⟨b,hb⟩:=d.there (t.mr.leaves-1).toNat (by omega)
    have hnb:(nth t.lv (t.mr.leaves-1).toNat).toNat=b:=by unfold nth;rw[List.getD_eq_getElem?_getD,hb];simp
    rw[hnb]
    have hbl:=Gc hb
    obtain⟨h1,h2⟩:=R.heap.PO hm hz.len (R.obMem htl) hbl
    have C2:Run c 146 [.int .i64 ((t.h:Int)+1),.int .i64 (t.mr.leaves-1)] zs (7+kv D.clean) ((aV c b zs).set (adr c t.h (8+(t.mr.leaves-1).toNat)) 0) (.bool true):=fun p m w hG=>by
     have:=Cm (s:=⟨zs,m⟩) (o:=t.ob) (t.mr.leaves-1).toNat b hG R.heap (R.obMem htl) hbl
     rw[show(((t.mr.leaves-1).toNat:Nat):Int)=t.mr.leaves-1 by omega] at this
     exact this
    have hz2:=gB.wz hz ⟨_,Nat.le_refl _,C2⟩
    have R2:=R.PO hm hf hb h1 h2
    have hf2:(D.gF ((t.h:Int)+1) (t.mr.leaves-1).toNat b).find ((t.h:Int)+1)=some {t with lv:=t.lv.set (t.mr.leaves-1).toNat (-1)}:=by
     show(D.upd ((t.h:Int)+1) (fun s=>{s with lv:=s.lv.set (t.mr.leaves-1).toNat (-1)})).find _=_
     rw[nQ (g:=fun s=>{s with lv:=s.lv.set (t.mr.leaves-1).toNat (-1)}) (fun t=>⟨rfl,rfl⟩),hf]
     simp[find_at_r hf]
    have R3:=R2.Gs hm hz2.len hf2 (v:=7) (.inr rfl) (x:=t.mr.leaves-1) (f:=fun m=>{m with leaves:=t.mr.leaves-1}) (by rw[if_neg (by decide)]) bn
    have R4:=R3.Ad hm (by rw[List.length_set];exact hz2.len) (D.pending-1)
    refine⟨_,⟨1+2+(7+kv D.clean)+3,?_,zA hm hlt C1 b6 b7 hf0 (by omega) hl (by omega) ha C2 R3.r6 hpp hpl⟩,R4⟩
    unfold kv
    split<;>omega
   ·rw[if_neg hl]
    have hl0':t.mr.leaves=0:=by omega
    have hleft:¬jy c.W 0<t.mr.left:=by rw[←hl0'];exact ha
    have R2:=R.Hu hm hz.len hg
    rw[show g-1=t.h by omega] at R2
    have C2:Run c 147 [.int .i64 1] zs (takeD (rest.map (· -1))) (eQ c 1 t.h zs) (.tuple #[.int .i64 (t.h:Int),.bool true]):=fun p m w hG=>by
     have hC:=R.grave
     rw[hg,List.map_cons,show g-1=t.h by omega] at hC
     exact uW p c ⟨zs,m⟩ 1 t.h (rest.map (· -1)) w hG hC (by omega)
    have hz2:=gB.wz hz ⟨_,Nat.le_refl _,C2⟩
    have hle:t.ob.leaves=[]:=by
     have h1:=iH t.lv 0 (by omega) (fun j hj=>absurd hj (by omega)) (fun j _ hj=>d.gone j (by omega) hj)
     exact List.length_eq_zero_iff.1 h1
    have hm2:t∈({D with grave:=rest}:Wd).live:=htl
    obtain⟨h1,h2⟩:=R2.heap.ended hm hz2.len (R2.obMem hm2) hle
    have C3:Run c 148 [.int .i64 ((t.h:Int)+1)] (eQ c 1 t.h zs) (3+kv D.clean) (aV c t.h (eQ c 1 t.h zs)) (.bool true):=fun p m w hG=>EC (s:=⟨_,m⟩) (o:=t.ob) hG R2.heap (R2.obMem hm2)
    have hng:t.h+1∉rest:=by
     have:=S.gd
     rw[hg,List.nodup_cons] at this
     rw[e];exact this.1
    have R3:=R2.ended hm (t:=t) hf bn hng h1 h2
    have hz3:=gB.wz hz2 ⟨_,Nat.le_refl _,C3⟩
    have R4:=R3.Ad hm hz3.len (D.pending-1)
    refine⟨_,⟨1+2+takeD (rest.map (· -1))+(3+kv D.clean)+2,?_,BI hm hlt C1 b6 (by rw[b7];exact hl0') hf0 (by omega) hleft C2 C3 R3.r6 hpp hpl⟩,R4⟩
    unfold kv takeD
    split<;>split<;>omega
theorem vw:Does c D 29 [] 1 D (.int .i64 D.pending):=fun zs hz R=>⟨zs,⟨1,Nat.le_refl _,El R.r6⟩,R⟩
end
section
variable {D D':Wd} {r:Int} {t s u:Th} {g:Th→Th} {φ:Th→Nat}
theorem yY{f g:Th→Th}(hf:∀t,(f t).ended=t.ended∧(f t).h=t.h):∀l:List Th,bE r g (bE r f l)=bE r (fun t=>g (f t)) l
 |[]=>rfl
 |u::l=>by
  have hat:(f u).at r=u.at r:=by unfold Th.at;rw[(hf u).1,(hf u).2]
  simp only[bE]
  cases h:u.at r with
  |true=>simp[bE,hat,h]
  |false=>simp[bE,h,yY hf l]
theorem dQ(r:Int){f:Mrk→Mrk}(h:∀t:Th,φ {t with mr:=f t.mr}=φ t):aj φ (D.mark r f).ts=aj φ D.ts:=by
 cases hf:D.find r with
 |none=>rw[bH f hf]
 |some t=>
  have:=gz (φ:=φ) (g:=fun t=>{t with mr:=f t.mr}) (t:=t) hf (find_at hf).2.1
  rw[h] at this
  show aj φ (bE r (fun t=>{t with mr:=f t.mr}) D.ts)=_
  omega
theorem oU(hf:D.find r=some t)(i:Nat)(x:Int):aj φ (D.setP r i x).ts+φ t=aj φ D.ts+φ {t with pt:=t.pt.set i x}:=gz (g:=fun t=>{t with pt:=t.pt.set i x}) hf (find_at hf).2.1
theorem IL(x:Int)(h:∀t:Th,t.mr.dead=false→φ (vI t)=φ t):aj φ (D.bury x).ts=aj φ D.ts:=by
 unfold Wd.bury
 cases hf:D.find x with
 |none=>rfl
 |some t=>
  simp only
  cases hd:t.mr.dead with
  |true=>simp
  |false=>
   simp only[Bool.false_eq_true,if_false]
   rw[gK]
   have:=gz (φ:=φ) (g:=fun s=>{s with mr:={s.mr with dead:=true,left:=(t.pt.length:Int),leaves:=(t.lv.length:Int)}}) (t:=t) hf (find_at hf).2.1
   have e:φ ({t with mr:={t.mr with dead:=true,left:=(t.pt.length:Int),leaves:=(t.lv.length:Int)}})=φ t:=h t hd
   omega
theorem Mt(i:Nat)(x:Int):(D.drain r i x).w=D.w∧(D.drain r i x).n=D.n∧(D.drain r i x).clean=D.clean:=by
 have key:∀D2:Wd,(if(D2.down x).cnt x=0 then(D2.down x).bury x else D2.down x).w=D2.w∧(if(D2.down x).cnt x=0 then(D2.down x).bury x else D2.down x).n=D2.n∧(if(D2.down x).cnt x=0 then(D2.down x).bury x else D2.down x).clean=D2.clean:=fun D2=>by
  split
  ·exact⟨(rF x).2.2,(rF x).2.1,(rF x).1⟩
  ·exact⟨rfl,rfl,rfl⟩
 unfold Wd.drain
 by_cases hc:(D.setP r i 0).cnt x=0
 ·rw[if_pos hc];exact⟨rfl,rfl,rfl⟩
 ·rw[if_neg hc]
  obtain⟨k1,k2,k3⟩:=key (if(D.setP r i 0).counted r i then(D.setP r i 0).ah x else D.setP r i 0)
  refine⟨k1.trans ?_,k2.trans ?_,k3.trans ?_⟩<;>split<;>first|rfl|exact(iK (D:=D.setP r i 0) x).2.2.2.2.2.2|exact(iK (D:=D.setP r i 0) x).2.2.2.2.2.1|exact(iK (D:=D.setP r i 0) x).2.2.2.2.1
theorem GJ(S:San D){l:Int}(h:0<l):D.ahead l=(l-1)*((D.w:Int)-1):=by unfold Wd.ahead;rw[if_pos h]
theorem ahead_zero:D.ahead 0=0:=by unfold Wd.ahead;rw[if_neg (by omega)];omega
theorem San.head(S:San D){q:Nat}{rest:List Nat}(hg:D.grave=q::rest):∃t,t∈D.live∧t.h+1=q∧D.find (q:Int)=some t∧t.mr.dead=true∧QT D.w t∧D.step=D.work q rest t:=by
 obtain⟨t,htl,e⟩:=S.gv q (by rw[hg];simp)
 have hf:D.find (q:Int)=some t:=by have:=S.findIt htl;rwa[show((t.h:Int)+1)=(q:Int) by omega] at this
 have hk:=S.ok t htl
 have hd:t.mr.dead=true:=hk.iff_.2 (by rw[e,hg];simp)
 refine⟨t,htl,e,hf,hd,hk.dead hd,?_⟩
 unfold Wd.step
 rw[hg]
 simp only[hf]
theorem fV(r:Int)(j b:Nat)(k:Int):((D.gF r j b).mark r (fun m=>{m with leaves:=k})).ts=bE r (fun s=>{s with lv:=s.lv.set j (-1),mr:={s.mr with leaves:=k}}) D.ts:=
 yY (f:=fun t=>{t with lv:=t.lv.set j (-1)}) (g:=fun t=>{t with mr:={t.mr with leaves:=k}}) (fun _=>⟨rfl,rfl⟩) D.ts
theorem San.step(S:San D):San D.step:=by
 cases hg:D.grave with
 |nil=>unfold Wd.step;rw[hg];exact S
 |cons q rest=>
  obtain⟨t,htl,e,hf,hd,d,es⟩:=S.head hg
  have hk:=S.ok t htl
  have hw:=S.w
  rw[es]
  unfold Wd.work
  by_cases ha:D.ahead t.mr.leaves<t.mr.left
  ·have h0:0≤D.ahead t.mr.leaves:=by
    unfold Wd.ahead
    refine Int.mul_nonneg ?_ (by omega)
    split<;>omega
   rw[if_pos ha]
   have S1:=S.drain hf (t.mr.left-1).toNat (nth t.pt (t.mr.left-1).toNat)
   obtain⟨f,hf1,k1,k2,k3⟩:=uY hf hd (t.mr.left-1).toNat (nth t.pt (t.mr.left-1).toNat)
   have hw1:=(Mt (D:=D) (r:=(q:Int)) (t.mr.left-1).toNat (nth t.pt (t.mr.left-1).toNat)).1
   have kk:=S1.ok _ (find_live hf1).1
   refine S1.upd (g:=fun s=>{s with mr:={s.mr with left:=t.mr.left-1}}) hf1 (find_at hf1).2.1 rfl rfl rfl rfl ⟨⟨kk.tC.small,kk.tC.big⟩,kk.iff_,fun _=> ?_,fun h=>by rw[show _=true from k1] at h;cases h⟩ (fun b hb=>.inl hb) rfl
   have dd:=kk.dead k1
   refine⟨dd.l0,dd.l1,?_,?_,fun hl=> ?_,dd.there,dd.gone,fun i hi=> ?_⟩
   ·show 0≤t.mr.left-1;omega
   ·show t.mr.left-1≤_
    have:=dd.f1
    have e2:(f t.mr).left=t.mr.left:=k2
    have e3:(f t.mr).left≤((t.pt.set (t.mr.left-1).toNat 0).length:Int):=this
    rw[e2] at e3
    show t.mr.left-1≤((t.pt.set (t.mr.left-1).toNat 0).length:Int)
    omega
   ·have h1:=dd.fl hl
    have h2:(f t.mr).left≤(f t.mr).leaves*(((D.drain (q:Int) (t.mr.left-1).toNat (nth t.pt (t.mr.left-1).toNat)).w:Int)-1):=h1
    rw[k2] at h2
    show t.mr.left-1≤(f t.mr).leaves*_
    omega
   ·have hi':t.mr.left-1≤(i:Int):=hi
    show nth (t.pt.set (t.mr.left-1).toNat 0) i=0
    by_cases ei:(t.mr.left-1).toNat=i
    ·rw[ei]
     by_cases hlt:i<t.pt.length
     ·rw[aD hlt]
     ·rw[bR (by simp;omega)]
    ·rw[aa ei]
     exact d.zero i (by omega)
  ·rw[if_neg ha]
   by_cases hl:0<t.mr.leaves
   ·rw[if_pos hl]
    have hp:bU t=1+t.mr.leaves.toNat:=by unfold bU;rw[hd,if_pos rfl]
    have hlen:((t.mr.leaves-1).toNat:Nat)<t.lv.length:=by have:=d.l1;omega
    have hfl:t.mr.left≤(t.mr.leaves-1)*((D.w:Int)-1):=by rw[←GJ S hl];omega
    refine S.upd (g:=fun s=>{s with lv:=s.lv.set (t.mr.leaves-1).toNat (-1),mr:={s.mr with leaves:=t.mr.leaves-1}}) hf (find_at hf).2.1 rfl (fV _ _ _ _) rfl rfl ⟨⟨fun h=> ?_,fun h=> ?_⟩,hk.iff_,fun _=>⟨?_,?_,d.f0,d.f1,fun _=>hfl,fun j hj=> ?_,fun j hj hj2=> ?_,d.zero⟩,fun h=>by rw[show _=true from hd] at h;cases h⟩ (fun b hb=>.inl hb) ?_
    ·have:=hk.tC.small h
     rw[this] at hlen
     simp at hlen
    ·have:=hk.tC.big h
     refine⟨?_,by simpa using this.2⟩
     show t.lv.set (t.mr.leaves-1).toNat (-1)≠[]
     intro hx
     have:=congrArg List.length hx
     simp at this
     rw[this] at hlen
     simp at hlen
    ·show 0≤t.mr.leaves-1;omega
    ·show t.mr.leaves-1≤((t.lv.set (t.mr.leaves-1).toNat (-1)).length:Int)
     have:=d.l1
     simp
     omega
    ·have hj':(j:Int)<t.mr.leaves-1:=hj
     show ∃b:Nat,(t.lv.set (t.mr.leaves-1).toNat (-1))[j]? =some (b:Int)
     rw[List.getElem?_set_ne (by omega)]
     exact d.there j (by omega)
    ·have hj':t.mr.leaves-1≤(j:Int):=hj
     have hj2':j<t.lv.length:=by simpa using hj2
     show(t.lv.set (t.mr.leaves-1).toNat (-1))[j]? =some (-1)
     by_cases ej:(t.mr.leaves-1).toNat=j
     ·rw[ej,List.getElem?_set_self hj2']
     ·rw[List.getElem?_set_ne ej]
      exact d.gone j (by omega) hj2'
    ·have hp2:bU ({t with lv:=t.lv.set (t.mr.leaves-1).toNat (-1),mr:={t.mr with leaves:=t.mr.leaves-1}})=1+(t.mr.leaves-1).toNat:=by
      unfold bU
      simp[hd]
     show D.pending-1+(bU t:Int)=D.pending+(bU ({t with lv:=t.lv.set (t.mr.leaves-1).toNat (-1),mr:={t.mr with leaves:=t.mr.leaves-1}}):Int)
     rw[hp,hp2]
     omega
   ·rw[if_neg hl]
    have hl0:t.mr.leaves=0:=by have:=d.l0;omega
    have hlive:(({D with grave:=rest}:Wd).gH (q:Int) t.h).live=D.live.filter (fun s=>s.h !=t.h):=dn (g:=fun s=>{s with ended:=true}) (fun _=>rfl) S.nd hf
    have hmem:∀s,s∈D.live.filter (fun s=>s.h !=t.h)→s∈D.live∧s.h≠t.h:=fun s hs=>by
     have:=List.mem_filter.1 hs
     exact⟨this.1,by simpa using this.2⟩
    have hnd:=S.gd
    rw[hg,List.nodup_cons] at hnd
    have hsum:=qW (φ:=bU) (g:=fun s=>{s with ended:=true}) hf rfl
    have hp:bU t=1:=by unfold bU;rw[hd,if_pos rfl,hl0];rfl
    show San {({D with grave:=rest}:Wd).gH (q:Int) t.h with pending:=D.pending-1}
    refine⟨S.w,?_,hnd.2,fun g hg'=> ?_,fun s hs=> ?_,fun s hs hr=> ?_,?_⟩
    ·show((({D with grave:=rest}:Wd).gH (q:Int) t.h).live.map Th.h).Nodup
     rw[hlive]
     exact S.nd.sublist (List.Sublist.map _ List.filter_sublist)
    ·obtain⟨u,hu,e2⟩:=S.gv g (by rw[hg];exact List.mem_cons_of_mem _ hg')
     refine⟨u,?_,e2⟩
     show u∈(({D with grave:=rest}:Wd).gH (q:Int) t.h).live
     rw[hlive]
     refine List.mem_filter.2 ⟨hu,?_⟩
     have:u.h≠t.h:=fun ex=>hnd.1 (by rw[←e,←ex,e2];exact hg')
     simpa using this
    ·have hs':s∈(({D with grave:=rest}:Wd).gH (q:Int) t.h).live:=hs
     rw[hlive] at hs'
     obtain⟨h1,h2⟩:=hmem s hs'
     have k:=S.ok s h1
     refine⟨k.tC,?_,k.dead,k.alive⟩
     show s.mr.dead=true↔s.h+1∈rest
     rw[k.iff_,hg,List.mem_cons]
     exact⟨fun h=>by rcases h with h|h;exact absurd (by omega) h2;exact h,fun h=>.inr h⟩
    ·have hs':s∈(({D with grave:=rest}:Wd).gH (q:Int) t.h).live:=hs
     rw[hlive] at hs'
     exact S.ring s (hmem s hs').1 hr
    ·show D.pending-1=(aj bU (bE (q:Int) (fun s=>{s with ended:=true}) D.ts):Int)
     have:=S.pend
     omega
end
section
variable {w w':World} {lo:Nat} {lab:Nat→Nat} {a:WA} {D:Wd} {i:Nat} {t t':Th} {x:TA} {n v b:Nat} {cl:List Nat} {ts:List Th}
theorem WAt.ringNew{w1:World}(h:WAt w lo lab a D)(hb:Below w.heap.size w w1){ra:Option Addr}(rc:Nat){l:List Nat}(hr:Row w1 .i64 ra (ints l))(hf:∀b off,ra=some ⟨b,off,none⟩→w.heap.size≤b):
  ∃lab',WAt (w1.setCell ⟨a.q,11,none⟩ (.slice ra l.length rc)) lo lab' {a with ra:=ra,rc:=rc} {D with ring:=l}:=by
 have hlo:lo≤w.heap.size:=Nat.le_of_lt (Nat.lt_of_le_of_lt h.lq.1 h.wb.lt)
 obtain⟨lab',h1,h2⟩:=vP (lab:=lab) hr hf hlo 5
 exact⟨lab',((h.re h1).later hb).Gt hr h2⟩
theorem WAt.graveNew{w1:World}(h:WAt w lo lab a D)(hb:Below w.heap.size w w1){ga:Option Addr}(gc:Nat){l:List Nat}(hr:Row w1 .i64 ga (ints l))(hf:∀b off,ga=some ⟨b,off,none⟩→w.heap.size≤b):
  ∃lab',WAt (w1.setCell ⟨a.q,12,none⟩ (.slice ga l.length gc)) lo lab' {a with ga:=ga,gc:=gc} {D with grave:=l}:=by
 have hlo:lo≤w.heap.size:=Nat.le_of_lt (Nat.lt_of_le_of_lt h.lq.1 h.wb.lt)
 obtain⟨lab',h1,h2⟩:=vP (lab:=lab) hr hf hlo 6
 exact⟨lab',((h.re h1).later hb).CQ hr h2⟩
end
section
variable {w w':World} {lo:Nat} {lab:Nat→Nat} {a:WA} {D:Wd} {i:Nat} {t t':Th} {x:TA} {n v b:Nat} {cl:List Nat} {ts:List Th}
theorem OP(h:WAt w lo lab a D)(r:Int):
  Calls Tryz.prog 56 #[.pointer (some ⟨a.hb,0,none⟩),.int .i64 r] w fun e w'=>e=.returned (a.tp (D.ix r))∧w=w':=by
 have c3:=h.h.c3
 obtain⟨⟨om,capm,hmv⟩,hmx⟩:=sj h.h.tv
 have HMX:Hid (D.ts.length≤maxLen):=hid hmx
 have HMV:=hid hmv
 rw[hmv] at c3
 have H:=hid h
 clear h hmx hmv
 go_enter Tryz.func56,Tryz.ntmps56
 go_wp2_with fail
 go_loop [5] (fun i=>∃k:Nat,k≤D.ts.length∧i=.int .i64 (k:Int)∧∀(j:Nat) u,j<k→D.ts[j]? =some u→u.at r=false) (fun i=>D.ts.length-(intOf i).toNat)
 case atStart=>exact⟨0,Nat.zero_le _,rfl,fun j u h=>absurd h (by omega)⟩
 case round=>
  obtain⟨k,hk,rfl,hno⟩:=hrel
  have HN:=hid hno
  clear hno
  by_cases hlt:k<D.ts.length
  ·obtain⟨t,ht⟩:∃t,D.ts[k]? =some t:=⟨_,List.getElem?_eq_getElem hlt⟩
   obtain⟨x,hx⟩:=H.out.h.at ht
   obtain⟨g,cap,htv,ct⟩:=H.out.h.PW ht hx
   rw[HMV.out] at htv
   obtain⟨rfl,_,rfl⟩:om=some ⟨g,0,none⟩∧D.ts.length=D.ts.length∧capm=cap:=by simpa using htv
   have hT:=H.out.h.th k t x ht hx
   have d0:=hT.c0
   have d4:=hT.c4
   have hbd:=H.out.h.bd t (List.mem_of_getElem? ht)
   have hwr:IntKind.i64.wrap ((t.h:Int)+1)=(t.h:Int)+1:=IntWalk.i64_in _ (by omega)
   have hlx:=HMX.out
   unfold maxLen at hlx
   have HT:=hid ht
   have HX:=hid hx
   clear hT hbd ht hx htv
   cases hen:t.ended with
   |true=>
    rw[hen] at d4
    have HA:=hid (Be (r:=r) hen)
    clear hen
    go_wp2_with fail
    go_round
    case rel=>exact⟨k+1,by omega,by go_num,fun j u hj hu=>by
     by_cases e:j=k
     ·subst e;rw[HT.out] at hu;cases hu;exact HA.out
     ·exact HN.out j u (by omega) hu⟩
    case measure=>simp[intOf];omega
   |false=>
    rw[hen] at d4
    by_cases he:(t.h:Int)+1=r
    ·have E:Hid (a.tp (D.ix r)=.pointer (some ⟨x.tb,0,none⟩)):=hid (by
      rw[show D.ix r=some k from zC HT.out (at_eq hen he) (fun j u hj hu=>HN.out j u hj hu)]
      simp[WA.tp,HX.out])
     have hb:=eq_b he
     clear he hen
     go_wp2_with fail
     go_ret
     exact⟨by rw[E.out];rfl,rfl⟩
    ·have HA:=hid (Oa (t:=t) (r:=r) he)
     have hb:=neq_b he
     clear he hen
     go_wp2_with fail
     go_round
     case rel=>exact⟨k+1,by omega,by go_num,fun j u hj hu=>by
      by_cases e:j=k
      ·subst e;rw[HT.out] at hu;cases hu;exact HA.out
      ·exact HN.out j u (by omega) hu⟩
     case measure=>simp[intOf];omega
  ·have E:Hid (D.ix r=none):=hid (vG.2 (fun u hu=>by
    obtain⟨j,hj⟩:=List.mem_iff_getElem?.1 hu
    exact HN.out j u (by have:=(List.getElem?_eq_some_iff.1 hj).1;omega) hj))
   go_wp2_with fail
   go_ret
   exact⟨by rw[E.out];rfl,rfl⟩
theorem h_find_yes(h:WAt w lo lab a D){r:Int}(hi:D.ix r=some i)(hx:a.tas[i]? =some x):
  Calls Tryz.prog 56 #[.pointer (some ⟨a.hb,0,none⟩),.int .i64 r] w fun e w'=>e=.returned (.pointer (some ⟨x.tb,0,none⟩))∧w=w':=by
 have:=OP h r
 rw[hi] at this
 simp only[WA.tp,hx] at this
 exact this
structure SzT (v:Nat) (t:Th):Prop where
 w0:16≤v
 w1:v≤256
 f:((t.pt.length+t.dt.length:Nat):Int)≤fieldsI (v:Int)
 big:¬t.pt.length+t.dt.length≤v-8→t.pt.length+t.dt.length≤t.lv.length*(v-1)
theorem SzT.small(z:SzT v t):t.pt.length+t.dt.length≤65536:=by
 have h1:=z.f
 have h2:fieldsI (v:Int)=((v:Int)-8)*((v:Int)-1):=rfl
 have h3:((v:Int)-8)*((v:Int)-1)≤248*255:=Int.mul_le_mul (by have:=z.w1;omega) (by have:=z.w1;omega) (by have:=z.w0;omega) (by omega)
 omega
theorem SzT.leaf(z:SzT v t)(hb:¬t.pt.length+t.dt.length≤v-8){k:Nat}(hk:k<t.pt.length+t.dt.length):k/(v-1)<t.lv.length:=by
 have:=z.big hb
 have:=z.w0
 rw[Nat.div_lt_iff_lt_mul (by omega)]
 omega
end
end Go.Proofs.YtjmifnljckmimaaGreat.Pk
