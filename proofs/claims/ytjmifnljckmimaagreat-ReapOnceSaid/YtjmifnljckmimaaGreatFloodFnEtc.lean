/-
  Texts laid together: FloodFn, LinkFn, LinkDo, LinkLaw, LinkInv.
-/
import Derived.Test.YtjmifnljckmimaaGreatGravNamEtc
import Derived.Test.YtjmifnljckmimaaGreatRingFnEtc
import Derived.Test.YtjmifnljckmimaaGreatTagFnEtc
namespace Go.Proofs.YtjmifnljckmimaaGreat.Pk
open Lib (hid)
open Go.RowKit
set_option linter.unusedVariables false
set_option linter.unusedSimpArgs false
set_option maxRecDepth 100000
theorem zg(k c n s d g o:Int)(w:World):(Instr.field 144 (.agg #[.int .i64 k,.int .i64 c,.int .i64 n,.int .i64 s,.int .i64 d,.int .i64 g,.int .i64 o]) 3).run Tryz.prog w=.ok (.int .i64 s) w:=by kernel_rfl
theorem wS(x:Int)(h0:0≤x)(h1:x≤4294967295):∃k cc n sh dd gg o:Int,sh=uS x∧∀w:World,Calls Tryz.prog 172 #[.int .u32 x] w fun e w'=>e=.returned (.agg #[.int .i64 k,.int .i64 cc,.int .i64 n,.int .i64 sh,.int .i64 dd,.int .i64 gg,.int .i64 o])∧Below w.heap.size w w':=⟨_,_,_,_,_,_,_,rfl,fun w=>di x w h0 h1⟩
theorem JY(w:World):Calls Tryz.prog 215 #[] w fun e w'=>e=.returned (.int .u32 16)∧Below w.heap.size w w':=by
 have HP1:=hid (fun w:World=>eQ 1 0 0 1 0 0 0 w (by decide))
 have HP2:=hid (fun w:World=>eQ 1 0 0 0 0 0 0 w (by decide))
 rw[show bI 1 0 0 1 0 0 0=17 from rfl] at HP1
 rw[show bI 1 0 0 0 0 0 0=1 from rfl] at HP2
 have hx:bits .xor .u32 17 1=16:=by decide
 go_enter Tryz.func215,Tryz.ntmps215
 go_wp2_with fail
 refine(HP1.out _).mono ?_
 rintro e w1 ⟨rfl,hb⟩
 have HB1:=hid hb
 clear hb
 go_wp2_with fail
 refine(HP2.out _).mono ?_
 rintro e w2 ⟨rfl,hb⟩
 have HB2:=hid (below_step HB1.out hb)
 clear hb
 go_wp2_with fail
 go_ret
 exact⟨rfl,HB2.out⟩
section
variable {c:Cf} {zs zs1 zs2 zs3 zs4 zs5 zs6 zs7 zs8:List Int} {d1 d2 d3 d4 d5 d6 d7 d8:Nat}
set_option maxHeartbeats 1000000 in
theorem uX{h:Nat}{x P:Int}(hh:h<c.N)(hm:c.May)(hx:nth zs (adr c h 0)=x)(x0:0≤x)(x1:x≤4294967295)(he:uS x=P)(C1:Run c 95 [] zs d1 zs1 (.int .i64 P)):Run c 184 [.int .i64 ((h:Int)+1)] zs (1+d1) zs1 (.tuple #[]):=fun p m w hG=>by
 have hw1:IntKind.i64.wrap ((h:Int)+1-1)=(h:Int):=by rw[IntWalk.i64_in _ (by have:=hm.n;omega)];omega
 have hw2:wrap64 (h:Int)=(h:Int):=IntWalk.wrap64_in _ (by have:=hm.n;omega)
 obtain⟨k,cc,n,sh,dd,gg,o,hsh,hU⟩:=wS x x0 x1
 have hfd:=zg k cc n sh dd gg o
 rw[←hsh] at he
 have HH:=hid hh
 have HV:=hid (show 0<c.W by have:=hm.w;omega)
 have HV4:=hid (show 4<c.W by have:=hm.w;omega)
 have HX:=hid hx
 have HU:=hid hU
 have heb:(sh==P)=true:=by rw[beq_iff_eq];exact he
 clear he hh hm hx x0 x1 hsh hU
 have HG:=hid hG
 have HC1:=hid C1
 clear hG C1
 go_enter Tryz.func184,Tryz.ntmps184
 have HT0:Hid (Touch (inG p) w w):=hid (Touch.refl _ _)
 go_wp2_with fail
 refine(fo p c _ h 0 _ _ x _ HG.out HH.out HV.out rfl rfl HX.out).mono ?_
 rintro e wm1 ⟨rfl,hG,hT⟩
 have HG1:=hid hG
 have HT1:Hid (Touch (inG p) _ wm1):=hid (HT0.out.trans hT)
 clear hG hT
 go_wp2_with fail
 refine(HU.out _).mono ?_
 rintro e wm2 ⟨rfl,hb⟩
 have HG2:=hid (HG1.out.later hb)
 have HT2:Hid (Touch (inG p) _ wm2):=hid (HT1.out.trans (Touch.of_below hb))
 clear hb
 go_wp2_with fail
 refine(HC1.out p _ _ HG2.out).mono ?_
 rintro e wm3 ⟨rfl,hG,hT⟩
 have HG3:=hid hG
 have HT3:Hid (Touch (inG p) _ wm3):=hid (HT2.out.trans hT)
 clear hG hT
 go_wp2_with fail
 go_end0
 exact⟨rfl,HG3.out.fJ rfl (by dsimp only[St.got,St.set]<;>omega),HT3.out⟩
set_option maxHeartbeats 1000000 in
theorem xh{h:Nat}{x P y:Int}(hh:h<c.N)(hm:c.May)(hx:nth zs (adr c h 0)=x)(x0:0≤x)(x1:x≤4294967295)(he:uS x≠P)(hy:bits .xor .u32 x 16=y)(y0:0≤y)(y1:y≤4294967295)(C1:Run c 95 [] zs d1 zs1 (.int .i64 P)):Run c 184 [.int .i64 ((h:Int)+1)] zs (1+d1+1+1) ((zs1.set (adr c h 0) y).set (adr c h 4) 0) (.tuple #[]):=fun p m w hG=>by
 have hw1:IntKind.i64.wrap ((h:Int)+1-1)=(h:Int):=by rw[IntWalk.i64_in _ (by have:=hm.n;omega)];omega
 have hw2:wrap64 (h:Int)=(h:Int):=IntWalk.wrap64_in _ (by have:=hm.n;omega)
 obtain⟨k,cc,n,sh,dd,gg,o,hsh,hU⟩:=wS x x0 x1
 have hfd:=zg k cc n sh dd gg o
 rw[←hsh] at he
 have HH:=hid hh
 have HV:=hid (show 0<c.W by have:=hm.w;omega)
 have HV4:=hid (show 4<c.W by have:=hm.w;omega)
 have HX:=hid hx
 have HU:=hid hU
 have heb:(sh==P)=false:=by rw[beq_eq_false_iff_ne];exact he
 have HY:=hid (And.intro y0 y1)
 clear he hh hm hx x0 x1 y0 y1 hsh hU
 have HG:=hid hG
 have HC1:=hid C1
 clear hG C1
 go_enter Tryz.func184,Tryz.ntmps184
 have HT0:Hid (Touch (inG p) w w):=hid (Touch.refl _ _)
 go_wp2_with fail
 refine(fo p c _ h 0 _ _ x _ HG.out HH.out HV.out rfl rfl HX.out).mono ?_
 rintro e wm1 ⟨rfl,hG,hT⟩
 have HG1:=hid hG
 have HT1:Hid (Touch (inG p) _ wm1):=hid (HT0.out.trans hT)
 clear hG hT
 go_wp2_with fail
 refine(HU.out _).mono ?_
 rintro e wm2 ⟨rfl,hb⟩
 have HG2:=hid (HG1.out.later hb)
 have HT2:Hid (Touch (inG p) _ wm2):=hid (HT1.out.trans (Touch.of_below hb))
 clear hb
 go_wp2_with fail
 refine(HC1.out p _ _ HG2.out).mono ?_
 rintro e wm3 ⟨rfl,hG,hT⟩
 have HG3:=hid hG
 have HT3:Hid (Touch (inG p) _ wm3):=hid (HT2.out.trans hT)
 clear hG hT
 go_wp2_with fail
 refine(JY _).mono ?_
 rintro e wm4 ⟨rfl,hb⟩
 have HG4:=hid (HG3.out.later hb)
 have HT4:Hid (Touch (inG p) _ wm4):=hid (HT3.out.trans (Touch.of_below hb))
 clear hb
 go_wp2_with fail
 refine(aG p c _ h 0 _ _ y _ HG4.out HH.out HV.out rfl rfl HY.out.1 HY.out.2).mono ?_
 rintro e wm5 ⟨rfl,hG,hT⟩
 have HG5:=hid hG
 have HT5:Hid (Touch (inG p) _ wm5):=hid (HT4.out.trans hT)
 clear hG hT
 go_wp2_with fail
 refine(aG p c _ h 4 _ _ 0 _ HG5.out HH.out HV4.out rfl rfl (by omega) (by omega)).mono ?_
 rintro e wm6 ⟨rfl,hG,hT⟩
 have HG6:=hid hG
 have HT6:Hid (Touch (inG p) _ wm6):=hid (HT5.out.trans hT)
 clear hG hT
 go_wp2_with fail
 go_end0
 exact⟨rfl,HG6.out.fJ rfl (by dsimp only[St.got,St.set]<;>omega),HT6.out⟩
set_option maxHeartbeats 1000000 in
theorem Ew(h14:nth zs 14=0):Run c 138 [] zs (1) zs (.bool false):=fun p m w hG=>by
 have HR14:=hid h14
 clear h14
 have HG:=hid hG
 clear hG
 go_enter Tryz.func138,Tryz.ntmps138
 have HT0:Hid (Touch (inG p) w w):=hid (Touch.refl _ _)
 go_wp2_with fail
 refine(gN p c _ 14 _ _ _ HG.out (by omega) rfl HR14.out).mono ?_
 rintro e wm1 ⟨rfl,hG,hT⟩
 have HG1:=hid hG
 have HT1:Hid (Touch (inG p) _ wm1):=hid (HT0.out.trans hT)
 clear hG hT
 go_wp2_with fail
 go_ret
 exact⟨rfl,HG1.out.fJ rfl (by dsimp only[St.got,St.set]<;>omega),HT1.out⟩
set_option maxHeartbeats 1000000 in
theorem sW{r i n n2 e:Int}(h14:nth zs 14=r)(hr:r≠0)(h15:nth zs 15=i)(hi:n≤i)(C1:Run c 110 [.int .i64 r] zs d1 zs1 (.tuple #[.int .i64 n,.int .i64 n2,.int .i64 e])):Run c 138 [] zs (1+1+d1+1) (zs1.set 14 0) (.bool true):=fun p m w hG=>by
 have HR14:=hid h14
 have hrb:(r==0)=false:=by rw[beq_eq_false_iff_ne];exact hr
 clear h14 hr
 have HR15:=hid h15
 clear h15
 have HG:=hid hG
 have HC1:=hid C1
 clear hG C1
 go_enter Tryz.func138,Tryz.ntmps138
 have HT0:Hid (Touch (inG p) w w):=hid (Touch.refl _ _)
 go_wp2_with fail
 refine(gN p c _ 14 _ _ _ HG.out (by omega) rfl HR14.out).mono ?_
 rintro e wm1 ⟨rfl,hG,hT⟩
 have HG1:=hid hG
 have HT1:Hid (Touch (inG p) _ wm1):=hid (HT0.out.trans hT)
 clear hG hT
 go_wp2_with fail
 refine(gN p c _ 15 _ _ _ HG1.out (by omega) rfl HR15.out).mono ?_
 rintro e wm2 ⟨rfl,hG,hT⟩
 have HG2:=hid hG
 have HT2:Hid (Touch (inG p) _ wm2):=hid (HT1.out.trans hT)
 clear hG hT
 go_wp2_with fail
 refine(HC1.out p _ _ HG2.out).mono ?_
 rintro e wm3 ⟨rfl,hG,hT⟩
 have HG3:=hid hG
 have HT3:Hid (Touch (inG p) _ wm3):=hid (HT2.out.trans hT)
 clear hG hT
 go_wp2_with fail
 refine(aK p c _ 14 _ 0 _ HG3.out (by omega) rfl (by omega) (by omega)).mono ?_
 rintro e wm4 ⟨rfl,hG,hT⟩
 have HG4:=hid hG
 have HT4:Hid (Touch (inG p) _ wm4):=hid (HT3.out.trans hT)
 clear hG hT
 go_wp2_with fail
 go_ret
 exact⟨rfl,HG4.out.fJ rfl (by dsimp only[St.got,St.set]<;>omega),HT4.out⟩
set_option maxHeartbeats 1000000 in
theorem ME{r i n n2 e x e2:Int}{b:Bool}(h14:nth zs 14=r)(hr:r≠0)(h15:nth zs 15=i)(i0:0≤i)(i1:i<4294967295)(hi:i<n)(C1:Run c 110 [.int .i64 r] zs d1 zs1 (.tuple #[.int .i64 n,.int .i64 n2,.int .i64 e]))(C2:Run c 70 [.int .i64 r,.int .i64 i] zs1 d2 zs2 (.tuple #[.int .i64 x,.int .i64 e2]))(C3:Run c 88 [.int .i64 x] zs2 d3 zs3 (.bool b)):Run c 138 [] zs (1+1+d1+d2+d3+1) (zs3.set 15 (i+1)) (.bool true):=fun p m w hG=>by
 have hni:¬n≤i:=by omega
 have hw2:IntKind.i64.wrap (i+1)=i+1:=IntWalk.i64_in _ (by omega)
 have HR14:=hid h14
 have hrb:(r==0)=false:=by rw[beq_eq_false_iff_ne];exact hr
 clear h14 hr
 have HR15:=hid h15
 clear h15
 have HG:=hid hG
 have HC1:=hid C1
 have HC2:=hid C2
 have HC3:=hid C3
 clear hG C1 C2 C3
 go_enter Tryz.func138,Tryz.ntmps138
 have HT0:Hid (Touch (inG p) w w):=hid (Touch.refl _ _)
 go_wp2_with fail
 refine(gN p c _ 14 _ _ _ HG.out (by omega) rfl HR14.out).mono ?_
 rintro e wm1 ⟨rfl,hG,hT⟩
 have HG1:=hid hG
 have HT1:Hid (Touch (inG p) _ wm1):=hid (HT0.out.trans hT)
 clear hG hT
 go_wp2_with fail
 refine(gN p c _ 15 _ _ _ HG1.out (by omega) rfl HR15.out).mono ?_
 rintro e wm2 ⟨rfl,hG,hT⟩
 have HG2:=hid hG
 have HT2:Hid (Touch (inG p) _ wm2):=hid (HT1.out.trans hT)
 clear hG hT
 go_wp2_with fail
 refine(HC1.out p _ _ HG2.out).mono ?_
 rintro e wm3 ⟨rfl,hG,hT⟩
 have HG3:=hid hG
 have HT3:Hid (Touch (inG p) _ wm3):=hid (HT2.out.trans hT)
 clear hG hT
 go_wp2_with fail
 refine(HC2.out p _ _ HG3.out).mono ?_
 rintro e wm4 ⟨rfl,hG,hT⟩
 have HG4:=hid hG
 have HT4:Hid (Touch (inG p) _ wm4):=hid (HT3.out.trans hT)
 clear hG hT
 go_wp2_with fail
 refine(HC3.out p _ _ HG4.out).mono ?_
 rintro e wm5 ⟨rfl,hG,hT⟩
 have HG5:=hid hG
 have HT5:Hid (Touch (inG p) _ wm5):=hid (HT4.out.trans hT)
 clear hG hT
 go_wp2_with fail
 refine(aK p c _ 15 _ (i+1) _ HG5.out (by omega) rfl (by omega) (by omega)).mono ?_
 rintro e wm6 ⟨rfl,hG,hT⟩
 have HG6:=hid hG
 have HT6:Hid (Touch (inG p) _ wm6):=hid (HT5.out.trans hT)
 clear hG hT
 go_wp2_with fail
 go_ret
 exact⟨rfl,HG6.out.fJ rfl (by dsimp only[St.got,St.set]<;>omega),HT6.out⟩
set_option maxHeartbeats 1000000 in
theorem zD{b:Int}(C1:Run c 183 [] zs d1 zs1 (.tuple #[.int .i64 b,.bool false])):Run c 139 [] zs (d1) zs1 (.bool false):=fun p m w hG=>by
 have HG:=hid hG
 have HC1:=hid C1
 clear hG C1
 go_enter Tryz.func139,Tryz.ntmps139
 have HT0:Hid (Touch (inG p) w w):=hid (Touch.refl _ _)
 go_wp2_with fail
 refine(HC1.out p _ _ HG.out).mono ?_
 rintro e wm1 ⟨rfl,hG,hT⟩
 have HG1:=hid hG
 have HT1:Hid (Touch (inG p) _ wm1):=hid (HT0.out.trans hT)
 clear hG hT
 go_wp2_with fail
 go_ret
 exact⟨rfl,HG1.out,HT1.out⟩
set_option maxHeartbeats 1000000 in
theorem Hw{b:Nat}(hb:b<4294967295)(C1:Run c 183 [] zs d1 zs1 (.tuple #[.int .i64 (b:Int),.bool true])):Run c 139 [] zs (d1+1+1) ((zs1.set 14 ((b:Int)+1)).set 15 0) (.bool true):=fun p m w hG=>by
 have hw1:IntKind.i64.wrap ((b:Int)+1)=(b:Int)+1:=IntWalk.i64_in _ (by omega)
 have HG:=hid hG
 have HC1:=hid C1
 clear hG C1
 go_enter Tryz.func139,Tryz.ntmps139
 have HT0:Hid (Touch (inG p) w w):=hid (Touch.refl _ _)
 go_wp2_with fail
 refine(HC1.out p _ _ HG.out).mono ?_
 rintro e wm1 ⟨rfl,hG,hT⟩
 have HG1:=hid hG
 have HT1:Hid (Touch (inG p) _ wm1):=hid (HT0.out.trans hT)
 clear hG hT
 go_wp2_with fail
 refine(aK p c _ 14 _ ((b:Int)+1) _ HG1.out (by omega) rfl (by omega) (by omega)).mono ?_
 rintro e wm2 ⟨rfl,hG,hT⟩
 have HG2:=hid hG
 have HT2:Hid (Touch (inG p) _ wm2):=hid (HT1.out.trans hT)
 clear hG hT
 go_wp2_with fail
 refine(aK p c _ 15 _ 0 _ HG2.out (by omega) rfl (by omega) (by omega)).mono ?_
 rintro e wm3 ⟨rfl,hG,hT⟩
 have HG3:=hid hG
 have HT3:Hid (Touch (inG p) _ wm3):=hid (HT2.out.trans hT)
 clear hG hT
 go_wp2_with fail
 go_ret
 exact⟨rfl,HG3.out.fJ rfl (by dsimp only[St.got,St.set]<;>omega),HT3.out⟩
set_option maxHeartbeats 1000000 in
theorem BN{k f:Int}(hk:(c.N:Int)≤k)(C1:Run c 47 [] zs d1 zs1 (.tuple #[.int .i64 k,.int .i64 f])):Run c 140 [] zs (d1) zs1 (.bool false):=fun p m w hG=>by
 have hfc:=cz (c.N:Int) (c.W:Int) (c.R:Int) (c.K:Int)
 have hkn:(c.N:Int)≤k:=hk
 clear hk
 have HG:=hid hG
 have HC1:=hid C1
 clear hG C1
 go_enter Tryz.func140,Tryz.ntmps140
 have HT0:Hid (Touch (inG p) w w):=hid (Touch.refl _ _)
 go_wp2_with fail
 refine(HC1.out p _ _ HG.out).mono ?_
 rintro e wm1 ⟨rfl,hG,hT⟩
 have HG1:=hid hG
 have HT1:Hid (Touch (inG p) _ wm1):=hid (HT0.out.trans hT)
 clear hG hT
 go_wp2_with fail
 refine(df p c _ _ HG1.out).mono ?_
 rintro e wm2 ⟨rfl,hb⟩
 have HG2:=hid (HG1.out.later hb)
 have HT2:Hid (Touch (inG p) _ wm2):=hid (HT1.out.trans (Touch.of_below hb))
 clear hb
 go_wp2_with fail
 go_ret
 exact⟨rfl,HG2.out,HT2.out⟩
set_option maxHeartbeats 1000000 in
theorem zG{k f:Int}{b:Bool}(h0:0≤k)(hk:k<(c.N:Int))(hm:c.May)(C1:Run c 47 [] zs d1 zs1 (.tuple #[.int .i64 k,.int .i64 f]))(C2:Run c 49 [.int .i64 (k+1)] zs1 d2 zs2 (.bool false))(C3:Run c 53 [.int .i64 (k+1),.int .i64 f] zs2 d3 zs3 (.bool b)):Run c 140 [] zs (d1+d2+d3) zs3 (.bool b):=fun p m w hG=>by
 have hfc:=cz (c.N:Int) (c.W:Int) (c.R:Int) (c.K:Int)
 have hmn:=hm.n
 have hkn:¬(c.N:Int)≤k:=by omega
 have hw1:IntKind.i64.wrap (k+1)=k+1:=IntWalk.i64_in _ (by omega)
 clear hm hmn
 have HG:=hid hG
 have HC1:=hid C1
 have HC2:=hid C2
 have HC3:=hid C3
 clear hG C1 C2 C3
 go_enter Tryz.func140,Tryz.ntmps140
 have HT0:Hid (Touch (inG p) w w):=hid (Touch.refl _ _)
 go_wp2_with fail
 refine(HC1.out p _ _ HG.out).mono ?_
 rintro e wm1 ⟨rfl,hG,hT⟩
 have HG1:=hid hG
 have HT1:Hid (Touch (inG p) _ wm1):=hid (HT0.out.trans hT)
 clear hG hT
 go_wp2_with fail
 refine(df p c _ _ HG1.out).mono ?_
 rintro e wm2 ⟨rfl,hb⟩
 have HG2:=hid (HG1.out.later hb)
 have HT2:Hid (Touch (inG p) _ wm2):=hid (HT1.out.trans (Touch.of_below hb))
 clear hb
 go_wp2_with fail
 refine(HC2.out p _ _ HG2.out).mono ?_
 rintro e wm3 ⟨rfl,hG,hT⟩
 have HG3:=hid hG
 have HT3:Hid (Touch (inG p) _ wm3):=hid (HT2.out.trans hT)
 clear hG hT
 go_wp2_with fail
 refine(HC3.out p _ _ HG3.out).mono ?_
 rintro e wm4 ⟨rfl,hG,hT⟩
 have HG4:=hid hG
 have HT4:Hid (Touch (inG p) _ wm4):=hid (HT3.out.trans hT)
 clear hG hT
 go_wp2_with fail
 go_ret
 exact⟨rfl,HG4.out.fJ rfl (by dsimp only;omega),HT4.out⟩
set_option maxHeartbeats 1000000 in
theorem zF{k f:Int}{b:Bool}(h0:0≤k)(hk:k<(c.N:Int))(hm:c.May)(C1:Run c 47 [] zs d1 zs1 (.tuple #[.int .i64 k,.int .i64 f]))(C2:Run c 49 [.int .i64 (k+1)] zs1 d2 zs2 (.bool true))(C3:Run c 50 [.int .i64 (k+1)] zs2 d3 zs3 (.bool true))(C4:Run c 53 [.int .i64 (k+1),.int .i64 f] zs3 d4 zs4 (.bool b)):Run c 140 [] zs (d1+d2+d3+d4) zs4 (.bool b):=fun p m w hG=>by
 have hfc:=cz (c.N:Int) (c.W:Int) (c.R:Int) (c.K:Int)
 have hmn:=hm.n
 have hkn:¬(c.N:Int)≤k:=by omega
 have hw1:IntKind.i64.wrap (k+1)=k+1:=IntWalk.i64_in _ (by omega)
 clear hm hmn
 have HG:=hid hG
 have HC1:=hid C1
 have HC2:=hid C2
 have HC3:=hid C3
 have HC4:=hid C4
 clear hG C1 C2 C3 C4
 go_enter Tryz.func140,Tryz.ntmps140
 have HT0:Hid (Touch (inG p) w w):=hid (Touch.refl _ _)
 go_wp2_with fail
 refine(HC1.out p _ _ HG.out).mono ?_
 rintro e wm1 ⟨rfl,hG,hT⟩
 have HG1:=hid hG
 have HT1:Hid (Touch (inG p) _ wm1):=hid (HT0.out.trans hT)
 clear hG hT
 go_wp2_with fail
 refine(df p c _ _ HG1.out).mono ?_
 rintro e wm2 ⟨rfl,hb⟩
 have HG2:=hid (HG1.out.later hb)
 have HT2:Hid (Touch (inG p) _ wm2):=hid (HT1.out.trans (Touch.of_below hb))
 clear hb
 go_wp2_with fail
 refine(HC2.out p _ _ HG2.out).mono ?_
 rintro e wm3 ⟨rfl,hG,hT⟩
 have HG3:=hid hG
 have HT3:Hid (Touch (inG p) _ wm3):=hid (HT2.out.trans hT)
 clear hG hT
 go_wp2_with fail
 refine(HC3.out p _ _ HG3.out).mono ?_
 rintro e wm4 ⟨rfl,hG,hT⟩
 have HG4:=hid hG
 have HT4:Hid (Touch (inG p) _ wm4):=hid (HT3.out.trans hT)
 clear hG hT
 go_wp2_with fail
 refine(HC4.out p _ _ HG4.out).mono ?_
 rintro e wm5 ⟨rfl,hG,hT⟩
 have HG5:=hid hG
 have HT5:Hid (Touch (inG p) _ wm5):=hid (HT4.out.trans hT)
 clear hG hT
 go_wp2_with fail
 go_ret
 exact⟨rfl,HG5.out.fJ rfl (by dsimp only;omega),HT5.out⟩
set_option maxHeartbeats 1000000 in
theorem BO{k f n s:Int}{b:Bool}(h0:0≤k)(hk:k<(c.N:Int))(hm:c.May)(hn:n≤s)(C1:Run c 47 [] zs d1 zs1 (.tuple #[.int .i64 k,.int .i64 f]))(C2:Run c 49 [.int .i64 (k+1)] zs1 d2 zs2 (.bool true))(C3:Run c 50 [.int .i64 (k+1)] zs2 d3 zs3 (.bool false))(C4:Run c 184 [.int .i64 (k+1)] zs3 d4 zs4 (.tuple #[]))(C5:Run c 33 [.int .i64 (k+1)] zs4 d5 zs5 (.int .i64 n))(C6:Run c 121 [.int .i64 (k+1)] zs5 d6 zs6 (.int .i64 s))(C7:Run c 53 [.int .i64 (k+1),.int .i64 f] zs6 d7 zs7 (.bool b)):Run c 140 [] zs (d1+d2+d3+d4+d5+d6+d7) zs7 (.bool b):=fun p m w hG=>by
 have hfc:=cz (c.N:Int) (c.W:Int) (c.R:Int) (c.K:Int)
 have hmn:=hm.n
 have hkn:¬(c.N:Int)≤k:=by omega
 have hw1:IntKind.i64.wrap (k+1)=k+1:=IntWalk.i64_in _ (by omega)
 clear hm hmn
 have hns:¬s<n:=by omega
 have HG:=hid hG
 have HC1:=hid C1
 have HC2:=hid C2
 have HC3:=hid C3
 have HC4:=hid C4
 have HC5:=hid C5
 have HC6:=hid C6
 have HC7:=hid C7
 clear hG C1 C2 C3 C4 C5 C6 C7
 go_enter Tryz.func140,Tryz.ntmps140
 have HT0:Hid (Touch (inG p) w w):=hid (Touch.refl _ _)
 go_wp2_with fail
 refine(HC1.out p _ _ HG.out).mono ?_
 rintro e wm1 ⟨rfl,hG,hT⟩
 have HG1:=hid hG
 have HT1:Hid (Touch (inG p) _ wm1):=hid (HT0.out.trans hT)
 clear hG hT
 go_wp2_with fail
 refine(df p c _ _ HG1.out).mono ?_
 rintro e wm2 ⟨rfl,hb⟩
 have HG2:=hid (HG1.out.later hb)
 have HT2:Hid (Touch (inG p) _ wm2):=hid (HT1.out.trans (Touch.of_below hb))
 clear hb
 go_wp2_with fail
 refine(HC2.out p _ _ HG2.out).mono ?_
 rintro e wm3 ⟨rfl,hG,hT⟩
 have HG3:=hid hG
 have HT3:Hid (Touch (inG p) _ wm3):=hid (HT2.out.trans hT)
 clear hG hT
 go_wp2_with fail
 refine(HC3.out p _ _ HG3.out).mono ?_
 rintro e wm4 ⟨rfl,hG,hT⟩
 have HG4:=hid hG
 have HT4:Hid (Touch (inG p) _ wm4):=hid (HT3.out.trans hT)
 clear hG hT
 go_wp2_with fail
 refine(HC4.out p _ _ HG4.out).mono ?_
 rintro e wm5 ⟨rfl,hG,hT⟩
 have HG5:=hid hG
 have HT5:Hid (Touch (inG p) _ wm5):=hid (HT4.out.trans hT)
 clear hG hT
 go_wp2_with fail
 refine(HC5.out p _ _ HG5.out).mono ?_
 rintro e wm6 ⟨rfl,hG,hT⟩
 have HG6:=hid hG
 have HT6:Hid (Touch (inG p) _ wm6):=hid (HT5.out.trans hT)
 clear hG hT
 go_wp2_with fail
 refine(HC6.out p _ _ HG6.out).mono ?_
 rintro e wm7 ⟨rfl,hG,hT⟩
 have HG7:=hid hG
 have HT7:Hid (Touch (inG p) _ wm7):=hid (HT6.out.trans hT)
 clear hG hT
 go_wp2_with fail
 refine(HC7.out p _ _ HG7.out).mono ?_
 rintro e wm8 ⟨rfl,hG,hT⟩
 have HG8:=hid hG
 have HT8:Hid (Touch (inG p) _ wm8):=hid (HT7.out.trans hT)
 clear hG hT
 go_wp2_with fail
 go_ret
 exact⟨rfl,HG8.out.fJ rfl (by dsimp only;omega),HT8.out⟩
set_option maxHeartbeats 1000000 in
theorem Ev{k f n s:Int}{b b2:Bool}(h0:0≤k)(hk:k<(c.N:Int))(hm:c.May)(hn:s<n)(C1:Run c 47 [] zs d1 zs1 (.tuple #[.int .i64 k,.int .i64 f]))(C2:Run c 49 [.int .i64 (k+1)] zs1 d2 zs2 (.bool true))(C3:Run c 50 [.int .i64 (k+1)] zs2 d3 zs3 (.bool false))(C4:Run c 184 [.int .i64 (k+1)] zs3 d4 zs4 (.tuple #[]))(C5:Run c 33 [.int .i64 (k+1)] zs4 d5 zs5 (.int .i64 n))(C6:Run c 121 [.int .i64 (k+1)] zs5 d6 zs6 (.int .i64 s))(C7:Run c 88 [.int .i64 (k+1)] zs6 d7 zs7 (.bool b2))(C8:Run c 53 [.int .i64 (k+1),.int .i64 f] zs7 d8 zs8 (.bool b)):Run c 140 [] zs (d1+d2+d3+d4+d5+d6+d7+d8) zs8 (.bool b):=fun p m w hG=>by
 have hfc:=cz (c.N:Int) (c.W:Int) (c.R:Int) (c.K:Int)
 have hmn:=hm.n
 have hkn:¬(c.N:Int)≤k:=by omega
 have hw1:IntKind.i64.wrap (k+1)=k+1:=IntWalk.i64_in _ (by omega)
 clear hm hmn
 have HG:=hid hG
 have HC1:=hid C1
 have HC2:=hid C2
 have HC3:=hid C3
 have HC4:=hid C4
 have HC5:=hid C5
 have HC6:=hid C6
 have HC7:=hid C7
 have HC8:=hid C8
 clear hG C1 C2 C3 C4 C5 C6 C7 C8
 go_enter Tryz.func140,Tryz.ntmps140
 have HT0:Hid (Touch (inG p) w w):=hid (Touch.refl _ _)
 go_wp2_with fail
 refine(HC1.out p _ _ HG.out).mono ?_
 rintro e wm1 ⟨rfl,hG,hT⟩
 have HG1:=hid hG
 have HT1:Hid (Touch (inG p) _ wm1):=hid (HT0.out.trans hT)
 clear hG hT
 go_wp2_with fail
 refine(df p c _ _ HG1.out).mono ?_
 rintro e wm2 ⟨rfl,hb⟩
 have HG2:=hid (HG1.out.later hb)
 have HT2:Hid (Touch (inG p) _ wm2):=hid (HT1.out.trans (Touch.of_below hb))
 clear hb
 go_wp2_with fail
 refine(HC2.out p _ _ HG2.out).mono ?_
 rintro e wm3 ⟨rfl,hG,hT⟩
 have HG3:=hid hG
 have HT3:Hid (Touch (inG p) _ wm3):=hid (HT2.out.trans hT)
 clear hG hT
 go_wp2_with fail
 refine(HC3.out p _ _ HG3.out).mono ?_
 rintro e wm4 ⟨rfl,hG,hT⟩
 have HG4:=hid hG
 have HT4:Hid (Touch (inG p) _ wm4):=hid (HT3.out.trans hT)
 clear hG hT
 go_wp2_with fail
 refine(HC4.out p _ _ HG4.out).mono ?_
 rintro e wm5 ⟨rfl,hG,hT⟩
 have HG5:=hid hG
 have HT5:Hid (Touch (inG p) _ wm5):=hid (HT4.out.trans hT)
 clear hG hT
 go_wp2_with fail
 refine(HC5.out p _ _ HG5.out).mono ?_
 rintro e wm6 ⟨rfl,hG,hT⟩
 have HG6:=hid hG
 have HT6:Hid (Touch (inG p) _ wm6):=hid (HT5.out.trans hT)
 clear hG hT
 go_wp2_with fail
 refine(HC6.out p _ _ HG6.out).mono ?_
 rintro e wm7 ⟨rfl,hG,hT⟩
 have HG7:=hid hG
 have HT7:Hid (Touch (inG p) _ wm7):=hid (HT6.out.trans hT)
 clear hG hT
 go_wp2_with fail
 refine(HC7.out p _ _ HG7.out).mono ?_
 rintro e wm8 ⟨rfl,hG,hT⟩
 have HG8:=hid hG
 have HT8:Hid (Touch (inG p) _ wm8):=hid (HT7.out.trans hT)
 clear hG hT
 go_wp2_with fail
 refine(HC8.out p _ _ HG8.out).mono ?_
 rintro e wm9 ⟨rfl,hG,hT⟩
 have HG9:=hid hG
 have HT9:Hid (Touch (inG p) _ wm9):=hid (HT8.out.trans hT)
 clear hG hT
 go_wp2_with fail
 go_ret
 exact⟨rfl,HG9.out.fJ rfl (by dsimp only;omega),HT9.out⟩
set_option maxHeartbeats 1000000 in
theorem xg{v:Int}(hv:v≠2)(C1:Run c 48 [] zs d1 zs1 (.int .i64 v)):Run c 77 [] zs (d1) zs1 (.bool false):=fun p m w hG=>by
 have hvb:(v==2)=false:=by rw[beq_eq_false_iff_ne];exact hv
 clear hv
 have HG:=hid hG
 have HC1:=hid C1
 clear hG C1
 go_enter Tryz.func77,Tryz.ntmps77
 have HT0:Hid (Touch (inG p) w w):=hid (Touch.refl _ _)
 go_wp2_with fail
 refine(HC1.out p _ _ HG.out).mono ?_
 rintro e wm1 ⟨rfl,hG,hT⟩
 have HG1:=hid hG
 have HT1:Hid (Touch (inG p) _ wm1):=hid (HT0.out.trans hT)
 clear hG hT
 go_wp2_with fail
 go_ret
 exact⟨rfl,HG1.out,HT1.out⟩
set_option maxHeartbeats 1000000 in
theorem zC(C1:Run c 48 [] zs d1 zs1 (.int .i64 2))(C2:Run c 138 [] zs1 d2 zs2 (.bool true)):Run c 77 [] zs (d1+d2) zs2 (.bool true):=fun p m w hG=>by
 have HG:=hid hG
 have HC1:=hid C1
 have HC2:=hid C2
 clear hG C1 C2
 go_enter Tryz.func77,Tryz.ntmps77
 have HT0:Hid (Touch (inG p) w w):=hid (Touch.refl _ _)
 go_wp2_with fail
 refine(HC1.out p _ _ HG.out).mono ?_
 rintro e wm1 ⟨rfl,hG,hT⟩
 have HG1:=hid hG
 have HT1:Hid (Touch (inG p) _ wm1):=hid (HT0.out.trans hT)
 clear hG hT
 go_wp2_with fail
 refine(HC2.out p _ _ HG1.out).mono ?_
 rintro e wm2 ⟨rfl,hG,hT⟩
 have HG2:=hid hG
 have HT2:Hid (Touch (inG p) _ wm2):=hid (HT1.out.trans hT)
 clear hG hT
 go_wp2_with fail
 go_ret
 exact⟨rfl,HG2.out.fJ rfl (by dsimp only;omega),HT2.out⟩
set_option maxHeartbeats 1000000 in
theorem uW(C1:Run c 48 [] zs d1 zs1 (.int .i64 2))(C2:Run c 138 [] zs1 d2 zs2 (.bool false))(C3:Run c 139 [] zs2 d3 zs3 (.bool true)):Run c 77 [] zs (d1+d2+d3) zs3 (.bool true):=fun p m w hG=>by
 have HG:=hid hG
 have HC1:=hid C1
 have HC2:=hid C2
 have HC3:=hid C3
 clear hG C1 C2 C3
 go_enter Tryz.func77,Tryz.ntmps77
 have HT0:Hid (Touch (inG p) w w):=hid (Touch.refl _ _)
 go_wp2_with fail
 refine(HC1.out p _ _ HG.out).mono ?_
 rintro e wm1 ⟨rfl,hG,hT⟩
 have HG1:=hid hG
 have HT1:Hid (Touch (inG p) _ wm1):=hid (HT0.out.trans hT)
 clear hG hT
 go_wp2_with fail
 refine(HC2.out p _ _ HG1.out).mono ?_
 rintro e wm2 ⟨rfl,hG,hT⟩
 have HG2:=hid hG
 have HT2:Hid (Touch (inG p) _ wm2):=hid (HT1.out.trans hT)
 clear hG hT
 go_wp2_with fail
 refine(HC3.out p _ _ HG2.out).mono ?_
 rintro e wm3 ⟨rfl,hG,hT⟩
 have HG3:=hid hG
 have HT3:Hid (Touch (inG p) _ wm3):=hid (HT2.out.trans hT)
 clear hG hT
 go_wp2_with fail
 go_ret
 exact⟨rfl,HG3.out.fJ rfl (by dsimp only;omega),HT3.out⟩
set_option maxHeartbeats 1000000 in
theorem qo{b:Bool}(C1:Run c 48 [] zs d1 zs1 (.int .i64 2))(C2:Run c 138 [] zs1 d2 zs2 (.bool false))(C3:Run c 139 [] zs2 d3 zs3 (.bool false))(C4:Run c 140 [] zs3 d4 zs4 (.bool b)):Run c 77 [] zs (d1+d2+d3+d4) zs4 (.bool b):=fun p m w hG=>by
 have HG:=hid hG
 have HC1:=hid C1
 have HC2:=hid C2
 have HC3:=hid C3
 have HC4:=hid C4
 clear hG C1 C2 C3 C4
 go_enter Tryz.func77,Tryz.ntmps77
 have HT0:Hid (Touch (inG p) w w):=hid (Touch.refl _ _)
 go_wp2_with fail
 refine(HC1.out p _ _ HG.out).mono ?_
 rintro e wm1 ⟨rfl,hG,hT⟩
 have HG1:=hid hG
 have HT1:Hid (Touch (inG p) _ wm1):=hid (HT0.out.trans hT)
 clear hG hT
 go_wp2_with fail
 refine(HC2.out p _ _ HG1.out).mono ?_
 rintro e wm2 ⟨rfl,hG,hT⟩
 have HG2:=hid hG
 have HT2:Hid (Touch (inG p) _ wm2):=hid (HT1.out.trans hT)
 clear hG hT
 go_wp2_with fail
 refine(HC3.out p _ _ HG2.out).mono ?_
 rintro e wm3 ⟨rfl,hG,hT⟩
 have HG3:=hid hG
 have HT3:Hid (Touch (inG p) _ wm3):=hid (HT2.out.trans hT)
 clear hG hT
 go_wp2_with fail
 refine(HC4.out p _ _ HG3.out).mono ?_
 rintro e wm4 ⟨rfl,hG,hT⟩
 have HG4:=hid hG
 have HT4:Hid (Touch (inG p) _ wm4):=hid (HT3.out.trans hT)
 clear hG hT
 go_wp2_with fail
 go_ret
 exact⟨rfl,HG4.out.fJ rfl (by dsimp only;omega),HT4.out⟩
end
section
variable {c:Cf} {zs zs1 zs2 zs3 zs4 zs5 zs6 zs7:List Int} {d1 d2 d3 d4 d5 d6 d7:Nat}
set_option maxHeartbeats 1000000 in
theorem Cn{r:Int}(C1:Run c 49 [.int .i64 r] zs d1 zs1 (.bool false)):Run c 73 [.int .i64 r] zs (d1) zs1 (.bool false):=fun p m w hG=>by
 have HG:=hid hG
 have HC1:=hid C1
 clear hG C1
 go_enter Tryz.func73,Tryz.ntmps73
 have HT0:Hid (Touch (inG p) w w):=hid (Touch.refl _ _)
 go_wp2_with fail
 refine(HC1.out p _ _ HG.out).mono ?_
 rintro e wm1 ⟨rfl,hG,hT⟩
 have HG1:=hid hG
 have HT1:Hid (Touch (inG p) _ wm1):=hid (HT0.out.trans hT)
 clear hG hT
 go_wp2_with fail
 go_ret
 exact⟨rfl,HG1.out,HT1.out⟩
set_option maxHeartbeats 1000000 in
theorem Kz{r:Int}{b:Bool}(C1:Run c 49 [.int .i64 r] zs d1 zs1 (.bool true))(C2:Run c 50 [.int .i64 r] zs1 d2 zs2 (.bool b)):Run c 73 [.int .i64 r] zs (d1+d2) zs2 (.bool (!b)):=fun p m w hG=>by
 have HG:=hid hG
 have HC1:=hid C1
 have HC2:=hid C2
 clear hG C1 C2
 go_enter Tryz.func73,Tryz.ntmps73
 have HT0:Hid (Touch (inG p) w w):=hid (Touch.refl _ _)
 go_wp2_with fail
 refine(HC1.out p _ _ HG.out).mono ?_
 rintro e wm1 ⟨rfl,hG,hT⟩
 have HG1:=hid hG
 have HT1:Hid (Touch (inG p) _ wm1):=hid (HT0.out.trans hT)
 clear hG hT
 go_wp2_with fail
 refine(HC2.out p _ _ HG1.out).mono ?_
 rintro e wm2 ⟨rfl,hG,hT⟩
 have HG2:=hid hG
 have HT2:Hid (Touch (inG p) _ wm2):=hid (HT1.out.trans hT)
 clear hG hT
 go_wp2_with fail
 go_ret
 exact⟨rfl,HG2.out.fJ rfl (by dsimp only;omega),HT2.out⟩
set_option maxHeartbeats 1000000 in
theorem MX{r n:Int}{b:Bool}(C1:Run c 72 [.int .i64 r] zs d1 zs1 (.tuple #[.int .i64 n,.bool true]))(C2:Run c 88 [.int .i64 r] zs1 d2 zs2 (.bool b)):Run c 74 [.int .i64 r] zs (d1+d2) zs2 (.bool true):=fun p m w hG=>by
 have HG:=hid hG
 have HC1:=hid C1
 have HC2:=hid C2
 clear hG C1 C2
 go_enter Tryz.func74,Tryz.ntmps74
 have HT0:Hid (Touch (inG p) w w):=hid (Touch.refl _ _)
 go_wp2_with fail
 refine(HC1.out p _ _ HG.out).mono ?_
 rintro e wm1 ⟨rfl,hG,hT⟩
 have HG1:=hid hG
 have HT1:Hid (Touch (inG p) _ wm1):=hid (HT0.out.trans hT)
 clear hG hT
 go_wp2_with fail
 refine(HC2.out p _ _ HG1.out).mono ?_
 rintro e wm2 ⟨rfl,hG,hT⟩
 have HG2:=hid hG
 have HT2:Hid (Touch (inG p) _ wm2):=hid (HT1.out.trans hT)
 clear hG hT
 go_wp2_with fail
 go_ret
 exact⟨rfl,HG2.out.fJ rfl (by dsimp only;omega),HT2.out⟩
set_option maxHeartbeats 1000000 in
theorem MW{r n:Int}(hn:n≠0)(C1:Run c 111 [.int .i64 r] zs d1 zs1 (.tuple #[.int .i64 n,.bool true])):Run c 89 [.int .i64 r] zs (d1+1) (zs1.set 16 1) (.bool true):=fun p m w hG=>by
 have hnb:(n==0)=false:=neq_b hn
 clear hn
 have HG:=hid hG
 have HC1:=hid C1
 clear hG C1
 go_enter Tryz.func89,Tryz.ntmps89
 have HT0:Hid (Touch (inG p) w w):=hid (Touch.refl _ _)
 go_wp2_with fail
 refine(HC1.out p _ _ HG.out).mono ?_
 rintro e wm1 ⟨rfl,hG,hT⟩
 have HG1:=hid hG
 have HT1:Hid (Touch (inG p) _ wm1):=hid (HT0.out.trans hT)
 clear hG hT
 go_wp2_with fail
 refine(aK p c _ 16 _ 1 _ HG1.out (by omega) rfl (by omega) (by omega)).mono ?_
 rintro e wm2 ⟨rfl,hG,hT⟩
 have HG2:=hid hG
 have HT2:Hid (Touch (inG p) _ wm2):=hid (HT1.out.trans hT)
 clear hG hT
 go_wp2_with fail
 go_ret
 exact⟨rfl,HG2.out.fJ rfl (by dsimp only[St.got,St.set];omega),HT2.out⟩
set_option maxHeartbeats 1000000 in
theorem KC{r:Int}{b:Bool}(C1:Run c 111 [.int .i64 r] zs d1 zs1 (.tuple #[.int .i64 0,.bool true]))(C2:Run c 17 [.int .i64 r] (zs1.set 16 1) d2 zs2 (.bool b)):Run c 89 [.int .i64 r] zs (d1+1+d2) zs2 (.bool true):=fun p m w hG=>by
 have HG:=hid hG
 have HC1:=hid C1
 have HC2:=hid C2
 clear hG C1 C2
 go_enter Tryz.func89,Tryz.ntmps89
 have HT0:Hid (Touch (inG p) w w):=hid (Touch.refl _ _)
 go_wp2_with fail
 refine(HC1.out p _ _ HG.out).mono ?_
 rintro e wm1 ⟨rfl,hG,hT⟩
 have HG1:=hid hG
 have HT1:Hid (Touch (inG p) _ wm1):=hid (HT0.out.trans hT)
 clear hG hT
 go_wp2_with fail
 refine(aK p c _ 16 _ 1 _ HG1.out (by omega) rfl (by omega) (by omega)).mono ?_
 rintro e wm2 ⟨rfl,hG,hT⟩
 have HG2:=hid hG
 have HT2:Hid (Touch (inG p) _ wm2):=hid (HT1.out.trans hT)
 clear hG hT
 go_wp2_with fail
 refine(HC2.out p _ _ HG2.out).mono ?_
 rintro e wm3 ⟨rfl,hG,hT⟩
 have HG3:=hid hG
 have HT3:Hid (Touch (inG p) _ wm3):=hid (HT2.out.trans hT)
 clear hG hT
 go_wp2_with fail
 go_ret
 exact⟨rfl,HG3.out.fJ rfl (by dsimp only[St.got,St.set];omega),HT3.out⟩
set_option maxHeartbeats 1000000 in
theorem MV{r:Int}{b:Bool}(C1:Run c 73 [.int .i64 r] zs d1 zs1 (.bool true))(C2:Run c 74 [.int .i64 r] zs1 d2 zs2 (.bool b)):Run c 16 [.int .i64 r] zs (d1+d2) zs2 (.bool b):=fun p m w hG=>by
 have HG:=hid hG
 have HC1:=hid C1
 have HC2:=hid C2
 clear hG C1 C2
 go_enter Tryz.func16,Tryz.ntmps16
 have HT0:Hid (Touch (inG p) w w):=hid (Touch.refl _ _)
 go_wp2_with fail
 refine(HC1.out p _ _ HG.out).mono ?_
 rintro e wm1 ⟨rfl,hG,hT⟩
 have HG1:=hid hG
 have HT1:Hid (Touch (inG p) _ wm1):=hid (HT0.out.trans hT)
 clear hG hT
 go_wp2_with fail
 refine(HC2.out p _ _ HG1.out).mono ?_
 rintro e wm2 ⟨rfl,hG,hT⟩
 have HG2:=hid hG
 have HT2:Hid (Touch (inG p) _ wm2):=hid (HT1.out.trans hT)
 clear hG hT
 go_wp2_with fail
 go_ret
 exact⟨rfl,HG2.out.fJ rfl (by dsimp only;omega),HT2.out⟩
set_option maxHeartbeats 1000000 in
theorem lw_Let{r:Int}{b:Bool}(C1:Run c 73 [.int .i64 r] zs d1 zs1 (.bool true))(C2:Run c 89 [.int .i64 r] zs1 d2 zs2 (.bool b)):Run c 32 [.int .i64 r] zs (d1+d2) zs2 (.bool b):=fun p m w hG=>by
 have HG:=hid hG
 have HC1:=hid C1
 have HC2:=hid C2
 clear hG C1 C2
 go_enter Tryz.func32,Tryz.ntmps32
 have HT0:Hid (Touch (inG p) w w):=hid (Touch.refl _ _)
 go_wp2_with fail
 refine(HC1.out p _ _ HG.out).mono ?_
 rintro e wm1 ⟨rfl,hG,hT⟩
 have HG1:=hid hG
 have HT1:Hid (Touch (inG p) _ wm1):=hid (HT0.out.trans hT)
 clear hG hT
 go_wp2_with fail
 refine(HC2.out p _ _ HG1.out).mono ?_
 rintro e wm2 ⟨rfl,hG,hT⟩
 have HG2:=hid hG
 have HT2:Hid (Touch (inG p) _ wm2):=hid (HT1.out.trans hT)
 clear hG hT
 go_wp2_with fail
 go_ret
 exact⟨rfl,HG2.out.fJ rfl (by dsimp only;omega),HT2.out⟩
set_option maxHeartbeats 1000000 in
theorem Cm{r i y k:Int}(hk:¬0<k)(C1:Run c 73 [.int .i64 r] zs d1 zs1 (.bool true))(C2:Run c 70 [.int .i64 r,.int .i64 i] zs1 d2 zs2 (.tuple #[.int .i64 y,.int .i64 0]))(C3:Run c 71 [.int .i64 r,.int .i64 i,.int .i64 0] zs2 d3 zs3 (.int .i64 0))(C4:Run c 33 [.int .i64 y] zs3 d4 zs4 (.int .i64 k)):Run c 31 [.int .i64 r,.int .i64 i,.int .i64 0] zs (d1+d2+d3+d4) zs4 (.int .i64 0):=fun p m w hG=>by
 have hkz:¬0<k:=hk
 clear hk
 have HG:=hid hG
 have HC1:=hid C1
 have HC2:=hid C2
 have HC3:=hid C3
 have HC4:=hid C4
 clear hG C1 C2 C3 C4
 go_enter Tryz.func31,Tryz.ntmps31
 have HT0:Hid (Touch (inG p) w w):=hid (Touch.refl _ _)
 go_wp2_with fail
 refine(HC1.out p _ _ HG.out).mono ?_
 rintro e wm1 ⟨rfl,hG,hT⟩
 have HG1:=hid hG
 have HT1:Hid (Touch (inG p) _ wm1):=hid (HT0.out.trans hT)
 clear hG hT
 go_wp2_with fail
 refine(HC2.out p _ _ HG1.out).mono ?_
 rintro e wm2 ⟨rfl,hG,hT⟩
 have HG2:=hid hG
 have HT2:Hid (Touch (inG p) _ wm2):=hid (HT1.out.trans hT)
 clear hG hT
 go_wp2_with fail
 refine(HC3.out p _ _ HG2.out).mono ?_
 rintro e wm3 ⟨rfl,hG,hT⟩
 have HG3:=hid hG
 have HT3:Hid (Touch (inG p) _ wm3):=hid (HT2.out.trans hT)
 clear hG hT
 go_wp2_with fail
 refine(HC4.out p _ _ HG3.out).mono ?_
 rintro e wm4 ⟨rfl,hG,hT⟩
 have HG4:=hid hG
 have HT4:Hid (Touch (inG p) _ wm4):=hid (HT3.out.trans hT)
 clear hG hT
 go_wp2_with fail
 go_ret
 exact⟨rfl,HG4.out.fJ rfl (by dsimp only;omega),HT4.out⟩
set_option maxHeartbeats 1000000 in
theorem zW{r i y k:Int}{b b2:Bool}(hk:0<k)(C1:Run c 73 [.int .i64 r] zs d1 zs1 (.bool true))(C2:Run c 70 [.int .i64 r,.int .i64 i] zs1 d2 zs2 (.tuple #[.int .i64 y,.int .i64 0]))(C3:Run c 71 [.int .i64 r,.int .i64 i,.int .i64 0] zs2 d3 zs3 (.int .i64 0))(C4:Run c 33 [.int .i64 y] zs3 d4 zs4 (.int .i64 k))(C5:Run c 88 [.int .i64 y] zs4 d5 zs5 (.bool b))(C6:Run c 89 [.int .i64 y] zs5 d6 zs6 (.bool b2)):Run c 31 [.int .i64 r,.int .i64 i,.int .i64 0] zs (d1+d2+d3+d4+d5+d6) zs6 (.int .i64 0):=fun p m w hG=>by
 have hkp:0<k:=hk
 clear hk
 have HG:=hid hG
 have HC1:=hid C1
 have HC2:=hid C2
 have HC3:=hid C3
 have HC4:=hid C4
 have HC5:=hid C5
 have HC6:=hid C6
 clear hG C1 C2 C3 C4 C5 C6
 go_enter Tryz.func31,Tryz.ntmps31
 have HT0:Hid (Touch (inG p) w w):=hid (Touch.refl _ _)
 go_wp2_with fail
 refine(HC1.out p _ _ HG.out).mono ?_
 rintro e wm1 ⟨rfl,hG,hT⟩
 have HG1:=hid hG
 have HT1:Hid (Touch (inG p) _ wm1):=hid (HT0.out.trans hT)
 clear hG hT
 go_wp2_with fail
 refine(HC2.out p _ _ HG1.out).mono ?_
 rintro e wm2 ⟨rfl,hG,hT⟩
 have HG2:=hid hG
 have HT2:Hid (Touch (inG p) _ wm2):=hid (HT1.out.trans hT)
 clear hG hT
 go_wp2_with fail
 refine(HC3.out p _ _ HG2.out).mono ?_
 rintro e wm3 ⟨rfl,hG,hT⟩
 have HG3:=hid hG
 have HT3:Hid (Touch (inG p) _ wm3):=hid (HT2.out.trans hT)
 clear hG hT
 go_wp2_with fail
 refine(HC4.out p _ _ HG3.out).mono ?_
 rintro e wm4 ⟨rfl,hG,hT⟩
 have HG4:=hid hG
 have HT4:Hid (Touch (inG p) _ wm4):=hid (HT3.out.trans hT)
 clear hG hT
 go_wp2_with fail
 refine(HC5.out p _ _ HG4.out).mono ?_
 rintro e wm5 ⟨rfl,hG,hT⟩
 have HG5:=hid hG
 have HT5:Hid (Touch (inG p) _ wm5):=hid (HT4.out.trans hT)
 clear hG hT
 go_wp2_with fail
 refine(HC6.out p _ _ HG5.out).mono ?_
 rintro e wm6 ⟨rfl,hG,hT⟩
 have HG6:=hid hG
 have HT6:Hid (Touch (inG p) _ wm6):=hid (HT5.out.trans hT)
 clear hG hT
 go_wp2_with fail
 go_ret
 exact⟨rfl,HG6.out.fJ rfl (by dsimp only;omega),HT6.out⟩
set_option maxHeartbeats 1000000 in
theorem EI{r i x y k:Int}(hx:x≠0)(hk:¬0<k)(C1:Run c 73 [.int .i64 r] zs d1 zs1 (.bool true))(C2:Run c 70 [.int .i64 r,.int .i64 i] zs1 d2 zs2 (.tuple #[.int .i64 y,.int .i64 0]))(C3:Run c 16 [.int .i64 x] zs2 d3 zs3 (.bool true))(C4:Run c 71 [.int .i64 r,.int .i64 i,.int .i64 x] zs3 d4 zs4 (.int .i64 0))(C5:Run c 33 [.int .i64 y] zs4 d5 zs5 (.int .i64 k)):Run c 31 [.int .i64 r,.int .i64 i,.int .i64 x] zs (d1+d2+d3+d4+d5) zs5 (.int .i64 0):=fun p m w hG=>by
 have hxb:(x !=0)=true:=by rw[bne_iff_ne];exact hx
 clear hx
 have hkz:¬0<k:=hk
 clear hk
 have HG:=hid hG
 have HC1:=hid C1
 have HC2:=hid C2
 have HC3:=hid C3
 have HC4:=hid C4
 have HC5:=hid C5
 clear hG C1 C2 C3 C4 C5
 go_enter Tryz.func31,Tryz.ntmps31
 have HT0:Hid (Touch (inG p) w w):=hid (Touch.refl _ _)
 go_wp2_with fail
 refine(HC1.out p _ _ HG.out).mono ?_
 rintro e wm1 ⟨rfl,hG,hT⟩
 have HG1:=hid hG
 have HT1:Hid (Touch (inG p) _ wm1):=hid (HT0.out.trans hT)
 clear hG hT
 go_wp2_with fail
 refine(HC2.out p _ _ HG1.out).mono ?_
 rintro e wm2 ⟨rfl,hG,hT⟩
 have HG2:=hid hG
 have HT2:Hid (Touch (inG p) _ wm2):=hid (HT1.out.trans hT)
 clear hG hT
 go_wp2_with fail
 refine(HC3.out p _ _ HG2.out).mono ?_
 rintro e wm3 ⟨rfl,hG,hT⟩
 have HG3:=hid hG
 have HT3:Hid (Touch (inG p) _ wm3):=hid (HT2.out.trans hT)
 clear hG hT
 go_wp2_with fail
 refine(HC4.out p _ _ HG3.out).mono ?_
 rintro e wm4 ⟨rfl,hG,hT⟩
 have HG4:=hid hG
 have HT4:Hid (Touch (inG p) _ wm4):=hid (HT3.out.trans hT)
 clear hG hT
 go_wp2_with fail
 refine(HC5.out p _ _ HG4.out).mono ?_
 rintro e wm5 ⟨rfl,hG,hT⟩
 have HG5:=hid hG
 have HT5:Hid (Touch (inG p) _ wm5):=hid (HT4.out.trans hT)
 clear hG hT
 go_wp2_with fail
 go_ret
 exact⟨rfl,HG5.out.fJ rfl (by dsimp only;omega),HT5.out⟩
set_option maxHeartbeats 1000000 in
theorem Ck{r i x y k:Int}{b b2:Bool}(hx:x≠0)(hk:0<k)(C1:Run c 73 [.int .i64 r] zs d1 zs1 (.bool true))(C2:Run c 70 [.int .i64 r,.int .i64 i] zs1 d2 zs2 (.tuple #[.int .i64 y,.int .i64 0]))(C3:Run c 16 [.int .i64 x] zs2 d3 zs3 (.bool true))(C4:Run c 71 [.int .i64 r,.int .i64 i,.int .i64 x] zs3 d4 zs4 (.int .i64 0))(C5:Run c 33 [.int .i64 y] zs4 d5 zs5 (.int .i64 k))(C6:Run c 88 [.int .i64 y] zs5 d6 zs6 (.bool b))(C7:Run c 89 [.int .i64 y] zs6 d7 zs7 (.bool b2)):Run c 31 [.int .i64 r,.int .i64 i,.int .i64 x] zs (d1+d2+d3+d4+d5+d6+d7) zs7 (.int .i64 0):=fun p m w hG=>by
 have hxb:(x !=0)=true:=by rw[bne_iff_ne];exact hx
 clear hx
 have hkp:0<k:=hk
 clear hk
 have HG:=hid hG
 have HC1:=hid C1
 have HC2:=hid C2
 have HC3:=hid C3
 have HC4:=hid C4
 have HC5:=hid C5
 have HC6:=hid C6
 have HC7:=hid C7
 clear hG C1 C2 C3 C4 C5 C6 C7
 go_enter Tryz.func31,Tryz.ntmps31
 have HT0:Hid (Touch (inG p) w w):=hid (Touch.refl _ _)
 go_wp2_with fail
 refine(HC1.out p _ _ HG.out).mono ?_
 rintro e wm1 ⟨rfl,hG,hT⟩
 have HG1:=hid hG
 have HT1:Hid (Touch (inG p) _ wm1):=hid (HT0.out.trans hT)
 clear hG hT
 go_wp2_with fail
 refine(HC2.out p _ _ HG1.out).mono ?_
 rintro e wm2 ⟨rfl,hG,hT⟩
 have HG2:=hid hG
 have HT2:Hid (Touch (inG p) _ wm2):=hid (HT1.out.trans hT)
 clear hG hT
 go_wp2_with fail
 refine(HC3.out p _ _ HG2.out).mono ?_
 rintro e wm3 ⟨rfl,hG,hT⟩
 have HG3:=hid hG
 have HT3:Hid (Touch (inG p) _ wm3):=hid (HT2.out.trans hT)
 clear hG hT
 go_wp2_with fail
 refine(HC4.out p _ _ HG3.out).mono ?_
 rintro e wm4 ⟨rfl,hG,hT⟩
 have HG4:=hid hG
 have HT4:Hid (Touch (inG p) _ wm4):=hid (HT3.out.trans hT)
 clear hG hT
 go_wp2_with fail
 refine(HC5.out p _ _ HG4.out).mono ?_
 rintro e wm5 ⟨rfl,hG,hT⟩
 have HG5:=hid hG
 have HT5:Hid (Touch (inG p) _ wm5):=hid (HT4.out.trans hT)
 clear hG hT
 go_wp2_with fail
 refine(HC6.out p _ _ HG5.out).mono ?_
 rintro e wm6 ⟨rfl,hG,hT⟩
 have HG6:=hid hG
 have HT6:Hid (Touch (inG p) _ wm6):=hid (HT5.out.trans hT)
 clear hG hT
 go_wp2_with fail
 refine(HC7.out p _ _ HG6.out).mono ?_
 rintro e wm7 ⟨rfl,hG,hT⟩
 have HG7:=hid hG
 have HT7:Hid (Touch (inG p) _ wm7):=hid (HT6.out.trans hT)
 clear hG hT
 go_wp2_with fail
 go_ret
 exact⟨rfl,HG7.out.fJ rfl (by dsimp only;omega),HT7.out⟩
end
section
variable {c:Cf} {D:Wd} {t u:Th} {r x y:Int} {zs:List Int} {hold:Nat→Nat}
theorem ld_alive(hr:In64 r):Does c D 73 [.int .i64 r] 14 D (.bool (D.aliveB r)):=fun zs hz R=>by
 obtain⟨zs1,⟨d1,hd1,C1⟩,R1,hz1⟩:=(Gd (c:=c) (D:=D) hr).at hz R
 cases hf:D.find r with
 |none=>
  rw[hf] at C1
  rw[Bf hf]
  exact⟨zs1,⟨d1,by omega,Cn C1⟩,R1⟩
 |some t=>
  rw[hf] at C1
  obtain⟨zs2,⟨d2,hd2,C2⟩,R2,hz2⟩:=(tintFns.dead c D r hr).at hz1 R1
  rw[show D.aliveB r= !D.dead r by unfold Wd.aliveB;rw[hf];rfl]
  exact⟨zs2,⟨d1+d2,by omega,Kz C1 C2⟩,R2⟩
theorem ld_more(hf:D.find r=some t)(hb:t.mr.refs<4294967295):Does c D 74 [.int .i64 r] 22 (D.more r) (.bool true):=fun zs hz R=>by
 have hr:=find64 hz.may R hf
 obtain⟨zs1,⟨d1,hd1,C1⟩,R1,hz1⟩:=(Om (c:=c) hf hb).at hz R
 obtain⟨zs2,⟨d2,hd2,C2⟩,R2,hz2⟩:=(tintFns.touch c (D.up r) r hr).at hz1 R1
 exact⟨zs2,⟨d1+d2,by omega,MX C1 C2⟩,R2⟩
theorem Pi(R:au c zs D)(hz:Wz c zs):au c (zs.set 16 1) D.sus:=by
 refine R.jw hz.may hz.len (k:=16) (by omega) (by omega) rfl rfl rfl rfl rfl rfl rfl rfl (fun j h1 h2 h3=> ?_) R.par
 have:j=10∨j=11∨j=12∨j=13∨j=14∨j=15∨j=17∨j=18:=by omega
 rcases this with rfl|rfl|rfl|rfl|rfl|rfl|rfl|rfl<;>rfl
theorem JR(hf:D.find r=some t):(D.down r).sus.cnt r=t.mr.refs-1:=by
 have:(D.down r).sus.find r=some {t with mr:={t.mr with refs:=t.mr.refs-1}}:=by
  show(D.down r).find r=_
  unfold Wd.down
  rw[find_mark,hf]
  simp[find_at_r hf]
 unfold Wd.cnt
 rw[this]
theorem Gl(hf:D.find r=some t)(h0:t.mr.refs≠0)(hp0:0≤D.pending)(hp1:D.pending≤4294900000):Does c D 89 [.int .i64 r] 46 (D.less r) (.bool true):=fun zs hz R=>by
 have hr:=find64 hz.may R hf
 obtain⟨zs1,C1,R1⟩:=zI hz R hf h0
 have hz1:Wz c zs1:=gu.wz hz ⟨3,Nat.le_refl _,C1⟩
 have R2:=Pi R1 hz1
 have hz2:Wz c (zs1.set 16 1):=hz1.set _ (by omega) (by omega)
 have hc:=JR hf
 by_cases h1:t.mr.refs-1=0
 ·obtain⟨zs3,⟨d3,hd3,C3⟩,R3,hz3⟩:=(BX (c:=c) (D:=(D.down r).sus) hr hp0 hp1).at hz2 R2
  rw[h1] at C1
  exact⟨zs3,⟨3+1+d3,by omega,KC C1 C3⟩,R3⟩
 ·have e:D.less r=(D.down r).sus:=by unfold Wd.less Wd.inter;rw[if_neg (by rw[hc];exact h1)]
  rw[e]
  exact⟨_,⟨3+1,by omega,MW h1 C1⟩,R2⟩
theorem ld_Hold(hf:D.find r=some t)(hd:t.mr.dead=false)(hb:t.mr.refs<4294967295):Does c D 16 [.int .i64 r] 36 (D.more r) (.bool true):=fun zs hz R=>by
 have hr:=find64 hz.may R hf
 obtain⟨zs1,⟨d1,hd1,C1⟩,R1,hz1⟩:=(ld_alive (c:=c) (D:=D) hr).at hz R
 rw[aliveB_some hf,hd] at C1
 obtain⟨zs2,⟨d2,hd2,C2⟩,R2,hz2⟩:=(ld_more (c:=c) hf hb).at hz1 R1
 exact⟨zs2,⟨d1+d2,by omega,MV C1 C2⟩,R2⟩
theorem ld_Let(hf:D.find r=some t)(hd:t.mr.dead=false)(h0:t.mr.refs≠0)(hp0:0≤D.pending)(hp1:D.pending≤4294900000):Does c D 32 [.int .i64 r] 60 (D.less r) (.bool true):=fun zs hz R=>by
 have hr:=find64 hz.may R hf
 obtain⟨zs1,⟨d1,hd1,C1⟩,R1,hz1⟩:=(ld_alive (c:=c) (D:=D) hr).at hz R
 rw[aliveB_some hf,hd] at C1
 obtain⟨zs2,⟨d2,hd2,C2⟩,R2,hz2⟩:=(Gl (c:=c) hf h0 hp0 hp1).at hz1 R1
 exact⟨zs2,⟨d1+d2,by omega,lw_Let C1 C2⟩,R2⟩
theorem vg(S:San D)(hf:D.find r=some t)(hd:t.mr.dead=false){i:Nat}(hi:i<t.pt.length)(hx:x=0∨∃u,D.find x=some u):Does c D 71 [.int .i64 r,.int .i64 (i:Int),.int .i64 x] 12 (D.setP r i x) (.int .i64 0):=fun zs hz R=>by
 obtain⟨htl,_⟩:=find_live hf
 have hxb:0≤x∧x≤(c.N:Int):=by
  rcases hx with rfl|⟨u,hu⟩
  ·omega
  ·obtain⟨hul,e⟩:=find_live hu
   have:=R.hlt hul
   omega
 obtain⟨a,ha⟩:=((S.ok t htl).alive hd).field hz.may R.w.symm (S.ok t htl).qp hi
 obtain⟨⟨d,hd,C⟩,R',_⟩:=mJ hz R hf hi ha hxb.1 hxb.2
 exact⟨_,⟨d,hd,C⟩,R'⟩
theorem QL(S:San D)(hz:Wz c zs)(R:au c zs D)(hf:D.find r=some t)(hd:t.mr.dead=false){i:Nat}(hi:i<t.pt.length):In64 (nth t.pt i):=by
 obtain⟨htl,_⟩:=find_live hf
 obtain⟨a,ha⟩:=((S.ok t htl).alive hd).field hz.may R.w.symm (S.ok t htl).qp hi
 have:=(qN hz R (find64 hz.may R hf) hf hi ha).2
 unfold In64
 omega
theorem Oa(q:Int)(hf:D.find q=some t)(x:Int):∃m:Mrk,(D.up x).find q=some {t with mr:=m}∧m.dead=t.mr.dead:=by
 unfold Wd.up
 rw[find_mark,hf]
 by_cases e:t.at x=true
 ·exact⟨{t.mr with refs:=t.mr.refs+1},by simp[e],rfl⟩
 ·exact⟨t.mr,by simp[e],rfl⟩
theorem more_find(q:Int)(hf:D.find q=some t)(x:Int):∃m:Mrk,(D.more x).find q=some {t with mr:=m}∧m.dead=t.mr.dead:=by
 obtain⟨m,h1,h2⟩:=Oa q hf x
 obtain⟨k,h3⟩:=touch_mark q h1 x
 exact⟨_,h3,h2⟩
theorem Ir(x:Int):(D.more x).pending=D.pending∧(D.more x).clean=D.clean∧(D.more x).grave=D.grave:=by
 obtain⟨h1,h2,h3,_⟩:=wN (D:=D.up x) x
 exact⟨h3,h1,h2⟩
theorem Gm(h64:In64 y)(hp0:0≤D.pending)(hp1:D.pending≤4294900000)(hz:Wz c zs)(R:au c zs D):
  (¬0<D.cnt y∧D.putY y=D∧∃zs1 d,d≤2∧Run c 33 [.int .i64 y] zs d zs1 (.int .i64 (D.cnt y))∧au c zs1 D)∨
  (0<D.cnt y∧∃zs1 d zs2 d2 b zs3 d3 b2,d+d2+d3≤62∧Run c 33 [.int .i64 y] zs d zs1 (.int .i64 (D.cnt y))∧Run c 88 [.int .i64 y] zs1 d2 zs2 (.bool b)∧Run c 89 [.int .i64 y] zs2 d3 zs3 (.bool b2)∧au c zs3 (D.putY y)):=by
 obtain⟨zs1,⟨d1,hd1,C1⟩,R1,hz1⟩:=(zH (c:=c) (D:=D) h64).at hz R
 by_cases h:0<D.cnt y
 ·right
  cases hf:D.find y with
  |none=>unfold Wd.cnt at h;rw[hf] at h;simp at h
  |some v=>
   obtain⟨zs2,⟨d2,hd2,C2⟩,R2,hz2⟩:=(tintFns.touch c D y h64).at hz1 R1
   obtain⟨k,hk⟩:=touch_mark y hf y
   have hr:v.mr.refs≠0:=by unfold Wd.cnt at h;rw[hf] at h;simp only at h;omega
   have e:=(wN (D:=D) y).2.2.1
   obtain⟨zs3,⟨d3,hd3,C3⟩,R3,hz3⟩:=(Gl (c:=c) hk hr (by rw[e];exact hp0) (by rw[e];exact hp1)).at hz2 R2
   exact⟨h,zs1,d1,zs2,d2,_,zs3,d3,_,by omega,C1,C2,C3,by unfold Wd.putY;rw[if_pos h];exact R3⟩
 ·exact .inl ⟨h,by unfold Wd.putY;rw[if_neg h],zs1,d1,hd1,C1,R1⟩
theorem ld_Put(S:San D)(hf:D.find r=some t)(hd:t.mr.dead=false){i:Nat}(hi:i<t.pt.length)(hx:x=0∨∃u,D.find x=some u∧u.mr.dead=false∧u.mr.refs<4294967295)(hp0:0≤D.pending)(hp1:D.pending≤4294900000):
  Does c D 31 [.int .i64 r,.int .i64 (i:Int),.int .i64 x] 150 (D.put r i x (nth t.pt i)) (.int .i64 0):=fun zs hz R=>by
 have h64:=QL S hz R hf hd hi
 obtain⟨zs1,⟨d1,hd1,C1⟩,R1,hz1⟩:=(ld_alive (c:=c) (D:=D) (find64 hz.may R hf)).at hz R
 rw[aliveB_some hf,hd] at C1
 obtain⟨zs2,⟨d2,hd2,C2⟩,R2,hz2⟩:=(Kh (c:=c) S hf hd i).at hz1 R1
 rw[if_pos hi] at C2
 by_cases hx0:x=0
 ·subst hx0
  obtain⟨zs3,⟨d3,hd3,C3⟩,R3,hz3⟩:=(vg (c:=c) (x:=0) S hf hd hi (.inl rfl)).at hz2 R2
  have e:D.putS r i 0=D.setP r i 0:=by unfold Wd.putS;rw[if_pos rfl]
  unfold Wd.put
  rw[e]
  rcases Gm (y:=nth t.pt i) h64 (D:=D.setP r i 0) hp0 hp1 hz3 R3 with⟨h0,e2,zs4,d4,hd4,C4,R4⟩|⟨h0,zs4,d4,zs5,d5,b,zs6,d6,b2,hd,C4,C5,C6,R6⟩
  ·rw[e2]
   exact⟨zs4,⟨d1+d2+d3+d4,by omega,Cm h0 C1 C2 C3 C4⟩,R4⟩
  ·exact⟨zs6,⟨d1+d2+d3+d4+d5+d6,by omega,zW h0 C1 C2 C3 C4 C5 C6⟩,R6⟩
 ·obtain⟨u,hu,hud,hub⟩:∃u,D.find x=some u∧u.mr.dead=false∧u.mr.refs<4294967295:=by
   rcases hx with h|h
   ·exact absurd h hx0
   ·exact h
  obtain⟨zs3,⟨d3,hd3,C3⟩,R3,hz3⟩:=(ld_Hold (c:=c) hu hud hub).at hz2 R2
  obtain⟨m,hf1,hm1⟩:=more_find r hf x
  obtain⟨m2,hu1,_⟩:=more_find x hu x
  obtain⟨zs4,⟨d4,hd4,C4⟩,R4,hz4⟩:=(vg (c:=c) (x:=x) (t:={t with mr:=m}) (i:=i) (S.more x) hf1 (hm1.trans hd) hi (.inr ⟨_,hu1⟩)).at hz3 R3
  have e:D.putS r i x=(D.more x).setP r i x:=by unfold Wd.putS;rw[if_neg hx0]
  have ep:=(Ir (D:=D) x).1
  unfold Wd.put
  rw[e]
  rcases Gm (y:=nth t.pt i) h64 (D:=(D.more x).setP r i x) (by show 0≤(D.more x).pending;rw[ep];exact hp0) (by show(D.more x).pending≤_;rw[ep];exact hp1) hz4 R4 with⟨h0,e2,zs5,d5,hd5,C5,R5⟩|⟨h0,zs5,d5,zs6,d6,b,zs7,d7,b2,hd,C5,C6,C7,R7⟩
  ·rw[e2]
   exact⟨zs5,⟨d1+d2+d3+d4+d5,by omega,EI hx0 h0 C1 C2 C3 C4 C5⟩,R5⟩
  ·exact⟨zs7,⟨d1+d2+d3+d4+d5+d6+d7,by omega,Ck hx0 h0 C1 C2 C3 C4 C5 C6 C7⟩,R7⟩
end
section
variable {c:Cf} {D:Wd} {t:Th} {zs:List Int} {x y:Int} {w wr:World} {p:Pl}
structure BornOk (D:Wd) (x y:Int) (N:Nat):Prop where
 san:San D→San (D.mkD x y)
 new:D.mkE x y=0→∃t,(D.mkD x y).find (D.mkR x y)=some t∧t.h=D.mkB∧t.mr=Mrk.new
 fresh:D.mkE x y=0→∀t,t∈D.live→t.h≠D.mkB
 lt:D.mkE x y=0→D.mkB<N
theorem RSt.bornOk(h:RSt w p c (D.mkD x y) wr):BornOk D x y c.N:=by
 have hs:San D→San (D.mkD x y):=fun S=>S.mkD h
 obtain⟨zs,m,hG,hR,_⟩:=h
 have key:D.mkE x y=0→(∃t,(D.mkD x y).find (D.mkR x y)=some t∧t.h=D.mkB∧t.mr=Mrk.new)∧(∀t,t∈D.live→t.h≠D.mkB)∧D.mkB<c.N:=fun h0=>by
  have eR:D.mkR x y=(D.mkB:Int)+1:=by unfold Wd.mkR;rw[if_pos h0]
  have eD:D.mkD x y=D.made D.mkB (D.clean.tail.take (D.mkN x y)) (D.clean.tail.drop (D.mkN x y)) x.toNat y.toNat:=by unfold Wd.mkD;rw[if_pos h0]
  rw[eD] at hR ⊢
  rw[eR]
  generalize D.clean.tail.take (D.mkN x y)=ls at*
  generalize D.clean.tail.drop (D.mkN x y)=cl at*
  have hl:=live_made (D:=D) (b:=D.mkB) (ls:=ls) (cl:=cl) (np:=x.toNat) (nd:=y.toNat)
  have hm:(⟨D.mkB,ints ls,zer x.toNat,zer y.toNat,false,Mrk.new⟩:Th)∈(D.made D.mkB ls cl x.toNat y.toNat).live:=by rw[hl];simp
  have hn:=hR.nodup
  rw[hl,List.map_append,List.nodup_append] at hn
  exact⟨⟨_,hR.findIt hm,rfl,rfl⟩,fun t ht=>hn.2.2 t.h (List.mem_map.2 ⟨t,ht,rfl⟩) D.mkB (by simp),hR.hlt hm⟩
 exact⟨hs,fun h0=>(key h0).1,fun h0=>(key h0).2.1,fun h0=>(key h0).2.2⟩
theorem dye_find(q:Int)(hf:D.find q=some t)(r:Int):∃m:Mrk,(D.dye r).find q=some {t with mr:=m}∧m.dead=t.mr.dead∧m.refs=t.mr.refs:=by
 unfold Wd.dye
 rw[find_mark,hf]
 by_cases e:t.at r=true
 ·exact⟨{t.mr with color:=D.parity,count:=D.parity,shade:=D.parity,shadow:=0},by simp[e],rfl,rfl⟩
 ·exact⟨t.mr,by simp[e],rfl,rfl⟩
theorem BornOk.Rz{N:Nat}(B:BornOk D x y N)(S:San D):San (D.born x y):=by
 unfold Wd.born
 split
 ·have S1:San ((D.mkD x y).dye (D.mkR x y)):=(B.san S).mark _ (fun _=>rfl) (fun _=>rfl) (fun _=>rfl)
  exact S1.more _
 ·exact S
set_option maxHeartbeats 2000000 in
theorem Gp(c:Cf)(D:Wd)(x y:Int){wr w:World}{p:Pl}(h:RSt w p c D wr):
  Calls Tryz.prog 30 #[.pointer (some ⟨p.a,0,none⟩),.int .i64 x,.int .i64 y] wr fun e w'=>e=.returned (.tuple #[.int .i64 (D.mkR x y),.int .i64 (D.mkE x y)])∧RSt w p c (D.born x y) w'∧Touch (inG p) wr w'∧BornOk D x y c.N:=by
 have HM:=hid (make_does objFns c D x y h)
 clear h
 by_cases hE:D.mkE x y=0
 ·have hD:D.born x y=((D.mkD x y).dye (D.mkR x y)).more (D.mkR x y):=by unfold Wd.born;rw[if_pos hE]
  have HE:=hid hE
  rw[hE] at HM
  rw[hE,hD]
  clear hE hD
  go_enter Tryz.func30,Tryz.ntmps30
  go_wp2_with fail
  refine HM.out.mono ?_
  rintro e w1 ⟨rfl,h1,hT⟩
  have HBk:=hid h1.bornOk
  have HS1:=hid h1
  have HT1:=hid hT
  obtain⟨t,hf,eh,em⟩:=HBk.out.new HE.out
  have h64:In64 (D.mkR x y):=by
   obtain⟨zs,m,hG,hR,_⟩:=h1
   exact find64 hG.may hR hf
  obtain⟨m,hf2,_,em2⟩:=dye_find (D.mkR x y) hf (D.mkR x y)
  have HDy:=hid ((tintFns.dye c (D.mkD x y) (D.mkR x y) h64).as (vb (show((D.mkD x y).find (D.mkR x y)).isSome=true by rw[hf];rfl)) rfl)
  have HMo:=hid (ld_more (c:=c) hf2 (by show m.refs<_;rw[em2,em];decide))
  clear h1 hT hf hf2
  go_wp2_with fail
  refine(HS1.out.does HDy.out).mono ?_
  rintro e w2 ⟨rfl,h2,hT2⟩
  have HS2:=hid h2
  have HT2:=hid (HT1.out.trans hT2)
  clear h2 hT2
  go_wp2_with fail
  refine(HS2.out.does HMo.out).mono ?_
  rintro e w3 ⟨rfl,h3,hT3⟩
  have HS3:=hid h3
  have HT3:=hid (HT2.out.trans hT3)
  clear h3 hT3
  go_wp2_with fail
  go_ret2
  exact⟨rfl,HS3.out,HT3.out,HBk.out⟩
 ·have hD:D.born x y=D.mkD x y:=by unfold Wd.born Wd.mkD;rw[if_neg hE,if_neg hE]
  have hR:D.mkR x y=0:=by unfold Wd.mkR;rw[if_neg hE]
  have hEb:(D.mkE x y !=0)=true:=by rw[bne_iff_ne];exact hE
  rw[hR] at HM
  rw[hD,hR]
  clear hE hD hR
  go_enter Tryz.func30,Tryz.ntmps30
  go_wp2_with fail
  refine HM.out.mono ?_
  rintro e w1 ⟨rfl,h1,hT⟩
  have HBk:=hid h1.bornOk
  have HS1:=hid h1
  have HT1:=hid hT
  clear h1 hT
  go_wp2_with fail
  go_ret2
  exact⟨rfl,HS1.out,HT1.out,HBk.out⟩
end
theorem San.Rx{D:Wd}{r x y:Int}{i:Nat}{t:Th}(S:San D)(hf:D.find r=some t)(hd:t.mr.dead=false):San (D.put r i x y):=by
 have S1:San (D.putS r i x):=by
  unfold Wd.putS
  split
  ·exact S.setP hf i (fun h=>by rw[hd] at h;cases h)
  ·obtain⟨m,h1,h2⟩:=more_find r hf x
   exact(S.more x).setP h1 i (fun h=>by have:m.dead=true:=h;rw[h2,hd] at this;cases this)
 unfold Wd.put Wd.putY
 split
 ·exact(S1.touch y).less y
 ·exact S1
section
variable {D D':Wd} {r x y:Int} {t s u:Th} {hold hold':Nat→Nat} {k N:Nat}
theorem OA(x:Int):(D.up x).live.map Th.h=D.live.map Th.h:=aX x _
theorem wM(x:Int):(D.touch x).live.map Th.h=D.live.map Th.h:=by
 rcases touch_ts (D:=D) x with h|h
 ·unfold Wd.live;rw[h]
 ·have:(D.touch x).live=(D.paint x).live:=by unfold Wd.live;rw[h]
  rw[this]
  exact aX x _
theorem qC(x:Int):(D.more x).live.map Th.h=D.live.map Th.h:=(wM x).trans (OA x)
theorem Mt(x:Int):(D.bury x).live.map Th.h=D.live.map Th.h:=by
 unfold Wd.bury
 cases hf:D.find x with
 |none=>rfl
 |some t=>
  simp only
  split
  ·rfl
  ·unfold Wd.live
   rw[lay_ts]
   exact bZ (g:=fun s=>{s with mr:={s.mr with dead:=true,left:=(t.pt.length:Int),leaves:=(t.lv.length:Int)}}) hf (find_at hf).2.1 rfl
theorem vv(x:Int):(D.inter x).live.map Th.h=D.live.map Th.h:=by
 unfold Wd.inter
 split
 ·exact Mt x
 ·rfl
theorem Gn(x:Int):(D.less x).live.map Th.h=D.live.map Th.h:=(vv (D:=(D.down x).sus) x).trans (show(D.down x).sus.live.map Th.h=D.live.map Th.h from aX (D:=D) x (fun m=>{m with refs:=m.refs-1}))
theorem mI(hf:D.find r=some t)(i:Nat)(x:Int):(D.setP r i x).live.map Th.h=D.live.map Th.h:=bZ (g:=fun t=>{t with pt:=t.pt.set i x}) hf (find_at hf).2.1 rfl
theorem EH(x:Int):(D.lighten x).live.map Th.h=D.live.map Th.h:=by
 unfold Wd.lighten
 split
 ·exact aX x _
 ·rfl
theorem BH(hf:D.find r=some t)(i:Nat)(x:Int):(D.drain r i x).live.map Th.h=D.live.map Th.h:=by
 have key:∀D2:Wd,D2.live.map Th.h=D.live.map Th.h→((D2.down x).inter x).live.map Th.h=D.live.map Th.h:=fun D2 h=>(vv x).trans ((aX x _).trans h)
 unfold Wd.drain
 by_cases hc:(D.setP r i 0).cnt x=0
 ·rw[if_pos hc];exact mI hf i 0
 ·rw[if_neg hc]
  refine key _ ?_
  split
  ·rw[EH];exact mI hf i 0
  ·exact mI hf i 0
theorem PI(hf:D.find r=some t)(i:Nat)(x y:Int):(D.put r i x y).live.map Th.h=D.live.map Th.h:=by
 have h1:(D.putS r i x).live.map Th.h=D.live.map Th.h:=by
  unfold Wd.putS
  split
  ·exact mI hf i x
  ·obtain⟨m,h1,_⟩:=more_find r hf x
   exact(mI h1 i x).trans (qC x)
 unfold Wd.put Wd.putY
 split
 ·exact(Gn y).trans ((wM y).trans h1)
 ·exact h1
theorem Pos1.setP(P:Pos1 x D)(S:San D)(hf:D.find r=some t)(i:Nat)(z:Int):Pos1 x (D.setP r i z):=fun s hs hd hx=>by
 rcases aN (g:=fun t=>{t with pt:=t.pt.set i z}) S.nd hf hs with rfl|⟨h,_⟩
 ·exact P t (find_live hf).1 hd hx
 ·exact P s h hd hx
theorem Pos1.lighten(P:Pos1 x D)(S:San D)(z:Int):Pos1 x (D.lighten z):=by
 unfold Wd.lighten
 split
 ·exact P.mark S z (fun _=>rfl) (fun _ h=>h)
 ·exact P
theorem Pos1.drain(P:Pos1 0 D)(N:Nam hold D)(S:San D)(hf:D.find r=some t){i:Nat}(hi:i<t.pt.length):Pos1 0 (D.drain r i (nth t.pt i)):=by
 have N1:=N.clear S hf hi
 have S1:=S.setP hf i (x:=0) (fun _=>rfl)
 have P1:=P.setP S hf i 0
 generalize nth t.pt i=x at N1
 unfold Wd.drain
 by_cases hc:(D.setP r i 0).cnt x=0
 ·rw[if_pos hc];exact P1
 ·rw[if_neg hc]
  have key:∀D2:Wd,San D2→uf hold x D2→Pos1 0 D2→Pos1 0 ((D2.down x).inter x):=fun D2 S2 N2 P2=>(P2.down S2 x).inter (N2.down S2) (S2.down x)
  have K:San (if(D.setP r i 0).counted r i then(D.setP r i 0).lighten x else D.setP r i 0)∧uf hold x (if(D.setP r i 0).counted r i then(D.setP r i 0).lighten x else D.setP r i 0)∧Pos1 0 (if(D.setP r i 0).counted r i then(D.setP r i 0).lighten x else D.setP r i 0):=by
   split
   ·refine⟨S1.lighten x,?_,P1.lighten S1 x⟩
    unfold Wd.lighten
    split
    ·exact N1.mark S1 x (fun _=>rfl) (fun _=>rfl)
    ·exact N1
   ·exact⟨S1,N1,P1⟩
  exact key _ K.1 K.2.1 K.2.2
theorem step_pos(P:Pos1 0 D)(N:Nam hold D)(S:San D):Pos1 0 D.step∧∀s,s∈D.live→(∃s',s'∈D.step.live∧s'.h=s.h)∨s.mr.dead=true:=by
 cases hg:D.grave with
 |nil=>rw[show D.step=D by unfold Wd.step;rw[hg]];exact⟨P,fun s hs=>.inl ⟨s,hs,rfl⟩⟩
 |cons q rest=>
  obtain⟨t,htl,e,hf,hd,d,es⟩:=S.head hg
  have hw:=S.w
  rw[es]
  unfold Wd.work
  by_cases ha:D.ahead t.mr.leaves<t.mr.left
  ·have h0:0≤D.ahead t.mr.leaves:=by
    unfold Wd.ahead
    refine Int.mul_nonneg ?_ (by omega)
    split<;>omega
   rw[if_pos ha]
   have hi:(t.mr.left-1).toNat<t.pt.length:=by have:=d.f1;omega
   exact⟨(P.drain N S hf hi).mark (S.drain hf _ _) _ (fun _=>rfl) (fun _ h=>h),fun s hs=>.inl (live_of_heads ((aX _ _).trans (BH hf _ _)) hs)⟩
  ·rw[if_neg ha]
   by_cases hl:0<t.mr.leaves
   ·rw[if_pos hl]
    have ets:({(D.gz (q:Int) (t.mr.leaves-1).toNat (nth t.lv (t.mr.leaves-1).toNat).toNat).mark (q:Int) (fun m=>{m with leaves:=t.mr.leaves-1}) with pending:=D.pending-1}:Wd).ts=updL (q:Int) (fun s=>{s with lv:=s.lv.set (t.mr.leaves-1).toNat (-1),mr:={s.mr with leaves:=t.mr.leaves-1}}) D.ts:=cut_mark _ _ _ _
    refine⟨fun s hs hds hx=> ?_,fun s hs=>.inl (live_of_heads ?_ hs)⟩
    ·unfold Wd.live at hs
     rw[ets] at hs
     rcases aN (g:=fun s=>{s with lv:=s.lv.set (t.mr.leaves-1).toNat (-1),mr:={s.mr with leaves:=t.mr.leaves-1}}) S.nd hf hs with rfl|⟨h,_⟩
     ·have hds:t.mr.dead=false:=hds
      rw[hd] at hds
      cases hds
     ·exact P s h hds hx
    ·unfold Wd.live
     rw[ets]
     exact bZ (g:=fun s=>{s with lv:=s.lv.set (t.mr.leaves-1).toNat (-1),mr:={s.mr with leaves:=t.mr.leaves-1}}) hf (find_at hf).2.1 rfl
   ·rw[if_neg hl]
    have hlive:({({D with grave:=rest}:Wd).endAt (q:Int) t.h with pending:=D.pending-1}:Wd).live=D.live.filter (fun s=>s.h !=t.h):=live_upd_end (g:=fun s=>{s with ended:=true}) (fun _=>rfl) S.nd hf
    refine⟨fun s hs hds hx=> ?_,fun s hs=> ?_⟩
    ·rw[hlive] at hs
     exact P s (List.mem_filter.1 hs).1 hds hx
    ·by_cases e2:s.h=t.h
     ·right
      rw[S.same hs htl e2]
      exact hd
     ·exact .inl ⟨s,by rw[hlive];exact List.mem_filter.2 ⟨hs,by simpa using e2⟩,rfl⟩
structure fK (hold:Nat→Nat) (k:Nat) (D:Wd):Prop where
 san:San D
 nam:Nam hold D
 pos:Pos1 0 D
 bd:∀h,hold h≤k
 out:∀h:Nat,(∀t,t∈D.live→t.h≠h)→hold h=0
theorem fK.new(n:Nat){w:Nat}(h:16≤w):fK (fun _=>0) 0 (Wd.new n w):=⟨San.new n h,(nE.new n h).nam,fun t ht=>absurd ht (by simp[Wd.live,Wd.new,aF]),fun _=>Nat.le_refl _,fun _ _=>rfl⟩
theorem fK.mono{k2:Nat}(I:fK hold k D)(h:k≤k2):fK hold k2 D:=⟨I.san,I.nam,I.pos,fun a=>Nat.le_trans (I.bd a) h,I.out⟩
theorem fK.step(I:fK hold k D):fK hold k D.step:=by
 obtain⟨h1,h2⟩:=step_pos I.pos I.nam I.san
 refine⟨I.san.step,I.nam.step I.san,h1,I.bd,fun h hn=> ?_⟩
 by_cases e:∀t,t∈D.live→t.h≠h
 ·exact I.out h e
 ·have:∃t,t∈D.live∧t.h=h:=by
   apply Classical.byContradiction
   intro hc
   exact e (fun t ht e2=>hc ⟨t,ht,e2⟩)
  obtain⟨t,ht,rfl⟩:=this
  rcases h2 t ht with⟨s,hs,e2⟩|hd
  ·exact absurd e2 (hn s hs)
  ·have h3:=I.nam.zer t ht hd
   have h4:=I.nam.cnt t ht
   omega
theorem si(I:fK hold k D)(h:D'.live.map Th.h=D.live.map Th.h):∀b:Nat,(∀t,t∈D'.live→t.h≠b)→hold b=0:=fun b hb=>I.out b (fun t ht e=>by
 obtain⟨s,h1,h2⟩:=live_of_heads h ht
 exact hb s h1 (by omega))
theorem fK.up(I:fK hold k D)(hf:D.find r=some t)(hd:t.mr.dead=false)(hh:∀h:Nat,hold' h=hold h+if(h:Int)+1=r then 1 else 0):fK hold' (k+1) (D.more r):=by
 have N1:=I.nam.RD I.san hf hd hh
 have S1:=I.san.up r
 refine⟨I.san.more r,N1.touch S1 r,(I.pos.up I.nam I.san r).touch S1 r,fun h=> ?_,fun h hn=> ?_⟩
 ·rw[hh]
  have:=I.bd h
  split<;>omega
 ·rw[hh]
  obtain⟨htl,e⟩:=find_live hf
  have h1:=si I (qC r) h hn
  rw[h1,if_neg (fun e2=> ?_)]
  obtain⟨s,a1,a2⟩:=live_of_heads (qC (D:=D) r) htl
  exact hn s a1 (by omega)
theorem fK.let(I:fK hold k D)(hh:∀h:Nat,hold h=hold' h+if(h:Int)+1=r then 1 else 0):fK hold' k (D.less r):=by
 refine⟨I.san.less r,I.nam.less I.san hh,I.pos.less I.san (I.nam.JO I.san hh),fun h=> ?_,fun h hn=> ?_⟩
 ·have:=I.bd h
  rw[hh] at this
  omega
 ·have:=si I (Gn r) h hn
  rw[hh] at this
  omega
theorem fK.put(I:fK hold k D)(hf:D.find r=some t)(hd:t.mr.dead=false){i:Nat}(hi:i<t.pt.length)(hx:x=0∨∃u,D.find x=some u∧u.mr.dead=false):fK hold k (D.put r i x (nth t.pt i)):=by
 -- the holds in between: one more of x, then one more of what the field held.
 have key:∃h2:Nat→Nat,(∀h:Nat,h2 h=hold h+if(h:Int)+1=nth t.pt i then 1 else 0)∧San (D.putS r i x)∧Nam h2 (D.putS r i x)∧Pos1 0 (D.putS r i x):=by
  refine⟨fun h=>hold h+if(h:Int)+1=nth t.pt i then 1 else 0,fun _=>rfl,?_⟩
  unfold Wd.putS
  by_cases hx0:x=0
  ·rw[if_pos hx0]
   exact⟨I.san.setP hf i (fun h=>by rw[hd] at h;cases h),I.nam.setH I.san hf hi (.inl hx0) (fun h=>by show hold h+(if(h:Int)+1=nth t.pt i then 1 else 0)+(if(h:Int)+1=x then 1 else 0)=hold h+(if(h:Int)+1=nth t.pt i then 1 else 0);rw[if_neg (show ¬(h:Int)+1=x by omega)];rfl),I.pos.setP I.san hf i x⟩
  ·rw[if_neg hx0]
   obtain⟨u,hu,hud⟩:∃u,D.find x=some u∧u.mr.dead=false:=by
    rcases hx with h|h
    ·exact absurd h hx0
    ·exact h
   have I1:=I.up (hold':=fun h=>hold h+if(h:Int)+1=x then 1 else 0) hu hud (fun _=>rfl)
   obtain⟨m,hf1,hm1⟩:=more_find r hf x
   obtain⟨m2,hu1,_⟩:=more_find x hu x
   exact⟨I1.san.setP hf1 i (fun h=>by have h:m.dead=true:=h;rw[hm1,hd] at h;cases h),I1.nam.setH I1.san hf1 (i:=i) hi (.inr ⟨_,hu1⟩) (fun h=>by show hold h+(if(h:Int)+1=nth t.pt i then 1 else 0)+(if(h:Int)+1=x then 1 else 0)=hold h+(if(h:Int)+1=x then 1 else 0)+(if(h:Int)+1=nth t.pt i then 1 else 0);omega),I1.pos.setP I1.san hf1 i x⟩
 obtain⟨h2,e2,S2,N2,P2⟩:=key
 have hgood:=I.nam.good t (find_live hf).1 i hi
 have hlh:=PI hf i x (nth t.pt i)
 have hout:=si I hlh
 unfold Wd.put at hout ⊢
 unfold Wd.putY at hout ⊢
 by_cases hc:0<(D.putS r i x).cnt (nth t.pt i)
 ·rw[if_pos hc] at hout ⊢
  have S3:=S2.touch (nth t.pt i)
  have N3:=N2.touch S2 (nth t.pt i)
  have P3:=P2.touch S2 (nth t.pt i)
  exact⟨S3.less _,N3.less S3 e2,P3.less S3 (N3.JO S3 e2),I.bd,hout⟩
 ·rw[if_neg hc] at hout ⊢
  have hz:∀h:Nat,(h:Int)+1≠nth t.pt i:=fun h e=>by
   rcases hgood with h0|⟨u,hu,hu2⟩
   ·omega
   ·have hl1:(D.putS r i x).live.map Th.h=D.live.map Th.h:=by
     unfold Wd.putS
     split
     ·exact mI hf i x
     ·obtain⟨m,h1,_⟩:=more_find r hf x
      exact(mI h1 i x).trans (qC x)
    obtain⟨u',a1,a2⟩:=live_of_heads hl1 hu
    have h3:=N2.cnt u' a1
    rw[e2,if_pos (by omega)] at h3
    have h4:=S2.findIt a1
    unfold Wd.cnt at hc
    rw[←hu2,←a2,h4] at hc
    simp only at hc
    omega
  have e3:h2=hold:=funext (fun h=>by rw[e2,if_neg (hz h)];rfl)
  rw[e3] at N2
  exact⟨S2,N2,P2,I.bd,hout⟩
theorem fK.born(I:fK hold k D)(B:BornOk D x y N)(hE:D.mkE x y=0)(hh:∀h:Nat,hold' h=hold h+if h=D.mkB then 1 else 0):fK hold' (k+1) (D.born x y):=by
 have eR:D.mkR x y=(D.mkB:Int)+1:=by unfold Wd.mkR;rw[if_pos hE]
 obtain⟨t,hf,et,em⟩:=B.new hE
 have hfr:=B.fresh hE
 have S1:=B.san I.san
 have eD:D.mkD x y=D.made D.mkB (D.clean.tail.take (D.mkN x y)) (D.clean.tail.drop (D.mkN x y)) x.toNat y.toNat:=by unfold Wd.mkD;rw[if_pos hE]
 have h0:hold D.mkB=0:=I.out _ hfr
 have N1:Nam hold (D.mkD x y):=by rw[eD];exact I.nam.made h0 hfr
 have hl:(D.mkD x y).live.map Th.h=D.live.map Th.h++[D.mkB]:=by rw[eD,live_made,List.map_append];rfl
 have P1:Pos1 ((D.mkB:Int)+1) (D.mkD x y):=fun s hs hd hx=>by
  rw[eD,live_made] at hs
  rcases List.mem_append.1 hs with h|h
  ·exact I.pos s h hd (by omega)
  ·obtain rfl:=List.mem_singleton.1 h
   exact absurd rfl hx
 obtain⟨m,hf2,hm1,hm2⟩:=dye_find (D.mkR x y) hf (D.mkR x y)
 have S2:San ((D.mkD x y).dye (D.mkR x y)):=S1.mark _ (fun _=>rfl) (fun _=>rfl) (fun _=>rfl)
 have N2:Nam hold ((D.mkD x y).dye (D.mkR x y)):=N1.mark S1 _ (fun _=>rfl) (fun _=>rfl)
 have P2:Pos1 (D.mkR x y) ((D.mkD x y).dye (D.mkR x y)):=by rw[eR];exact P1.mark S1 _ (fun _=>rfl) (fun _ h=>h)
 have hdead:m.dead=false:=by rw[hm1,em];rfl
 have N3:Nam hold' (((D.mkD x y).dye (D.mkR x y)).up (D.mkR x y)):=N2.RD S2 hf2 hdead (fun h=>by
  rw[hh]
  congr 1
  by_cases e:h=D.mkB
  ·rw[if_pos e,if_pos (by rw[eR,e])]
  ·rw[if_neg e,if_neg (by rw[eR];omega)])
 have S3:=S2.up (D.mkR x y)
 have eB:D.born x y=((D.mkD x y).dye (D.mkR x y)).more (D.mkR x y):=by unfold Wd.born;rw[if_pos hE]
 have hlB:(D.born x y).live.map Th.h=D.live.map Th.h++[D.mkB]:=by rw[eB,qC];exact(aX _ _).trans hl
 refine⟨by rw[eB];exact S2.more _,by rw[eB];exact N3.touch S3 _,by rw[eB];exact(P2.RY N2 S2).touch S3 _,fun h=> ?_,fun h hn=> ?_⟩
 ·rw[hh]
  have:=I.bd h
  split<;>omega
 ·have hnm:h∉(D.born x y).live.map Th.h:=fun hm=>by
   obtain⟨s,a1,a2⟩:=List.mem_map.1 hm
   exact hn s a1 a2
  rw[hlB] at hnm
  simp only[List.mem_append,List.mem_singleton,not_or] at hnm
  rw[hh,if_neg hnm.2,I.out h (fun t ht e=>hnm.1 (List.mem_map.2 ⟨t,ht,e⟩))]
end
end Go.Proofs.YtjmifnljckmimaaGreat.Pk
