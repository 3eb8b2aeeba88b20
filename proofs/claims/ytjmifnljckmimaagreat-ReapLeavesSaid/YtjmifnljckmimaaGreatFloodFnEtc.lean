/-
  Texts laid together: FloodFn, LinkFn, LinkDo, LinkLaw, LinkInv, ReapFn.
-/
import Derived.Test.YtjmifnljckmimaaGreatGravNamEtc
import Derived.Test.YtjmifnljckmimaaGreatRingFnEtc
import Derived.Test.YtjmifnljckmimaaGreatTagFnEtc
namespace Go.Proofs.YtjmifnljckmimaaGreat.Pk
open Lib (hid)
open Go.RowKit
set_option linter.unusedVariables false
set_option linter.unusedSimpArgs false
set_option maxRecDepth 100000
theorem zt(k c n s d g o:Int)(w:World):(Instr.field 144 (.agg #[.int .i64 k,.int .i64 c,.int .i64 n,.int .i64 s,.int .i64 d,.int .i64 g,.int .i64 o]) 3).run Tryz.prog w=.ok (.int .i64 s) w:=by kernel_rfl
theorem wV(x:Int)(h0:0≤x)(h1:x≤4294967295):∃k cc n sh dd gg o:Int,sh=uS x∧∀w:World,Calls Tryz.prog 172 #[.int .u32 x] w fun e w'=>e=.returned (.agg #[.int .i64 k,.int .i64 cc,.int .i64 n,.int .i64 sh,.int .i64 dd,.int .i64 gg,.int .i64 o])∧Below w.heap.size w w':=⟨_,_,_,_,_,_,_,rfl,fun w=>dh x w h0 h1⟩
theorem Kw(w:World):Calls Tryz.prog 215 #[] w fun e w'=>e=.returned (.int .u32 16)∧Below w.heap.size w w':=by
 have HP1:=hid (fun w:World=>eY 1 0 0 1 0 0 0 w (by decide))
 have HP2:=hid (fun w:World=>eY 1 0 0 0 0 0 0 w (by decide))
 rw[show bZ 1 0 0 1 0 0 0=17 from rfl] at HP1
 rw[show bZ 1 0 0 0 0 0 0=1 from rfl] at HP2
 have hx:bits .xor .u32 17 1=16:=by decide
 go_enter Tryz.func215,Tryz.ntmps215
 go_wp2_with fail
 refine(HP1.out _).mono ?_
 rintro e w1 ⟨rfl,hb⟩
 have HB1:=hid hb
 clear hb
 go_wp2_with fail
 refine(HP2.out _).mono ?_
 rintro e w2 ⟨rfl,hb⟩
 have HB2:=hid (below_step HB1.out hb)
 clear hb
 go_wp2_with fail
 go_ret
 exact⟨rfl,HB2.out⟩
section
variable {c:Cf} {zs zs1 zs2 zs3 zs4 zs5 zs6 zs7 zs8:List Int} {d1 d2 d3 d4 d5 d6 d7 d8:Nat}
set_option maxHeartbeats 1000000 in
theorem vo{h:Nat}{x P:Int}(hh:h<c.N)(hm:c.May)(hx:nth zs (adr c h 0)=x)(x0:0≤x)(x1:x≤4294967295)(he:uS x=P)(C1:Run c 95 [] zs d1 zs1 (.int .i64 P)):Run c 184 [.int .i64 ((h:Int)+1)] zs (1+d1) zs1 (.tuple #[]):=fun p m w hG=>by
 have hw1:IntKind.i64.wrap ((h:Int)+1-1)=(h:Int):=by rw[IntWalk.i64_in _ (by have:=hm.n;omega)];omega
 have hw2:wrap64 (h:Int)=(h:Int):=IntWalk.wrap64_in _ (by have:=hm.n;omega)
 obtain⟨k,cc,n,sh,dd,gg,o,hsh,hU⟩:=wV x x0 x1
 have hfd:=zt k cc n sh dd gg o
 rw[←hsh] at he
 have HH:=hid hh
 have HV:=hid (show 0<c.W by have:=hm.w;omega)
 have HV4:=hid (show 4<c.W by have:=hm.w;omega)
 have HX:=hid hx
 have HU:=hid hU
 have heb:(sh==P)=true:=by rw[beq_iff_eq];exact he
 clear he hh hm hx x0 x1 hsh hU
 have HG:=hid hG
 have HC1:=hid C1
 clear hG C1
 go_enter Tryz.func184,Tryz.ntmps184
 have HT0:Hid (Touch (inG p) w w):=hid (Touch.refl _ _)
 go_wp2_with fail
 refine(fq p c _ h 0 _ _ x _ HG.out HH.out HV.out rfl rfl HX.out).mono ?_
 rintro e wm1 ⟨rfl,hG,hT⟩
 have HG1:=hid hG
 have HT1:Hid (Touch (inG p) _ wm1):=hid (HT0.out.trans hT)
 clear hG hT
 go_wp2_with fail
 refine(HU.out _).mono ?_
 rintro e wm2 ⟨rfl,hb⟩
 have HG2:=hid (HG1.out.later hb)
 have HT2:Hid (Touch (inG p) _ wm2):=hid (HT1.out.trans (Touch.of_below hb))
 clear hb
 go_wp2_with fail
 refine(HC1.out p _ _ HG2.out).mono ?_
 rintro e wm3 ⟨rfl,hG,hT⟩
 have HG3:=hid hG
 have HT3:Hid (Touch (inG p) _ wm3):=hid (HT2.out.trans hT)
 clear hG hT
 go_wp2_with fail
 go_end0
 exact⟨rfl,HG3.out.fO rfl (by dsimp only[St.got,St.set]<;>omega),HT3.out⟩
set_option maxHeartbeats 1000000 in
theorem xw{h:Nat}{x P y:Int}(hh:h<c.N)(hm:c.May)(hx:nth zs (adr c h 0)=x)(x0:0≤x)(x1:x≤4294967295)(he:uS x≠P)(hy:bits .xor .u32 x 16=y)(y0:0≤y)(y1:y≤4294967295)(C1:Run c 95 [] zs d1 zs1 (.int .i64 P)):Run c 184 [.int .i64 ((h:Int)+1)] zs (1+d1+1+1) ((zs1.set (adr c h 0) y).set (adr c h 4) 0) (.tuple #[]):=fun p m w hG=>by
 have hw1:IntKind.i64.wrap ((h:Int)+1-1)=(h:Int):=by rw[IntWalk.i64_in _ (by have:=hm.n;omega)];omega
 have hw2:wrap64 (h:Int)=(h:Int):=IntWalk.wrap64_in _ (by have:=hm.n;omega)
 obtain⟨k,cc,n,sh,dd,gg,o,hsh,hU⟩:=wV x x0 x1
 have hfd:=zt k cc n sh dd gg o
 rw[←hsh] at he
 have HH:=hid hh
 have HV:=hid (show 0<c.W by have:=hm.w;omega)
 have HV4:=hid (show 4<c.W by have:=hm.w;omega)
 have HX:=hid hx
 have HU:=hid hU
 have heb:(sh==P)=false:=by rw[beq_eq_false_iff_ne];exact he
 have HY:=hid (And.intro y0 y1)
 clear he hh hm hx x0 x1 y0 y1 hsh hU
 have HG:=hid hG
 have HC1:=hid C1
 clear hG C1
 go_enter Tryz.func184,Tryz.ntmps184
 have HT0:Hid (Touch (inG p) w w):=hid (Touch.refl _ _)
 go_wp2_with fail
 refine(fq p c _ h 0 _ _ x _ HG.out HH.out HV.out rfl rfl HX.out).mono ?_
 rintro e wm1 ⟨rfl,hG,hT⟩
 have HG1:=hid hG
 have HT1:Hid (Touch (inG p) _ wm1):=hid (HT0.out.trans hT)
 clear hG hT
 go_wp2_with fail
 refine(HU.out _).mono ?_
 rintro e wm2 ⟨rfl,hb⟩
 have HG2:=hid (HG1.out.later hb)
 have HT2:Hid (Touch (inG p) _ wm2):=hid (HT1.out.trans (Touch.of_below hb))
 clear hb
 go_wp2_with fail
 refine(HC1.out p _ _ HG2.out).mono ?_
 rintro e wm3 ⟨rfl,hG,hT⟩
 have HG3:=hid hG
 have HT3:Hid (Touch (inG p) _ wm3):=hid (HT2.out.trans hT)
 clear hG hT
 go_wp2_with fail
 refine(Kw _).mono ?_
 rintro e wm4 ⟨rfl,hb⟩
 have HG4:=hid (HG3.out.later hb)
 have HT4:Hid (Touch (inG p) _ wm4):=hid (HT3.out.trans (Touch.of_below hb))
 clear hb
 go_wp2_with fail
 refine(aK p c _ h 0 _ _ y _ HG4.out HH.out HV.out rfl rfl HY.out.1 HY.out.2).mono ?_
 rintro e wm5 ⟨rfl,hG,hT⟩
 have HG5:=hid hG
 have HT5:Hid (Touch (inG p) _ wm5):=hid (HT4.out.trans hT)
 clear hG hT
 go_wp2_with fail
 refine(aK p c _ h 4 _ _ 0 _ HG5.out HH.out HV4.out rfl rfl (by omega) (by omega)).mono ?_
 rintro e wm6 ⟨rfl,hG,hT⟩
 have HG6:=hid hG
 have HT6:Hid (Touch (inG p) _ wm6):=hid (HT5.out.trans hT)
 clear hG hT
 go_wp2_with fail
 go_end0
 exact⟨rfl,HG6.out.fO rfl (by dsimp only[St.got,St.set]<;>omega),HT6.out⟩
set_option maxHeartbeats 1000000 in
theorem EJ(h14:nth zs 14=0):Run c 138 [] zs (1) zs (.bool false):=fun p m w hG=>by
 have HR14:=hid h14
 clear h14
 have HG:=hid hG
 clear hG
 go_enter Tryz.func138,Tryz.ntmps138
 have HT0:Hid (Touch (inG p) w w):=hid (Touch.refl _ _)
 go_wp2_with fail
 refine(gQ p c _ 14 _ _ _ HG.out (by omega) rfl HR14.out).mono ?_
 rintro e wm1 ⟨rfl,hG,hT⟩
 have HG1:=hid hG
 have HT1:Hid (Touch (inG p) _ wm1):=hid (HT0.out.trans hT)
 clear hG hT
 go_wp2_with fail
 go_ret
 exact⟨rfl,HG1.out.fO rfl (by dsimp only[St.got,St.set]<;>omega),HT1.out⟩
set_option maxHeartbeats 1000000 in
theorem tC{r i n n2 e:Int}(h14:nth zs 14=r)(hr:r≠0)(h15:nth zs 15=i)(hi:n≤i)(C1:Run c 110 [.int .i64 r] zs d1 zs1 (.tuple #[.int .i64 n,.int .i64 n2,.int .i64 e])):Run c 138 [] zs (1+1+d1+1) (zs1.set 14 0) (.bool true):=fun p m w hG=>by
 have HR14:=hid h14
 have hrb:(r==0)=false:=by rw[beq_eq_false_iff_ne];exact hr
 clear h14 hr
 have HR15:=hid h15
 clear h15
 have HG:=hid hG
 have HC1:=hid C1
 clear hG C1
 go_enter Tryz.func138,Tryz.ntmps138
 have HT0:Hid (Touch (inG p) w w):=hid (Touch.refl _ _)
 go_wp2_with fail
 refine(gQ p c _ 14 _ _ _ HG.out (by omega) rfl HR14.out).mono ?_
 rintro e wm1 ⟨rfl,hG,hT⟩
 have HG1:=hid hG
 have HT1:Hid (Touch (inG p) _ wm1):=hid (HT0.out.trans hT)
 clear hG hT
 go_wp2_with fail
 refine(gQ p c _ 15 _ _ _ HG1.out (by omega) rfl HR15.out).mono ?_
 rintro e wm2 ⟨rfl,hG,hT⟩
 have HG2:=hid hG
 have HT2:Hid (Touch (inG p) _ wm2):=hid (HT1.out.trans hT)
 clear hG hT
 go_wp2_with fail
 refine(HC1.out p _ _ HG2.out).mono ?_
 rintro e wm3 ⟨rfl,hG,hT⟩
 have HG3:=hid hG
 have HT3:Hid (Touch (inG p) _ wm3):=hid (HT2.out.trans hT)
 clear hG hT
 go_wp2_with fail
 refine(aO p c _ 14 _ 0 _ HG3.out (by omega) rfl (by omega) (by omega)).mono ?_
 rintro e wm4 ⟨rfl,hG,hT⟩
 have HG4:=hid hG
 have HT4:Hid (Touch (inG p) _ wm4):=hid (HT3.out.trans hT)
 clear hG hT
 go_wp2_with fail
 go_ret
 exact⟨rfl,HG4.out.fO rfl (by dsimp only[St.got,St.set]<;>omega),HT4.out⟩
set_option maxHeartbeats 1000000 in
theorem MQ{r i n n2 e x e2:Int}{b:Bool}(h14:nth zs 14=r)(hr:r≠0)(h15:nth zs 15=i)(i0:0≤i)(i1:i<4294967295)(hi:i<n)(C1:Run c 110 [.int .i64 r] zs d1 zs1 (.tuple #[.int .i64 n,.int .i64 n2,.int .i64 e]))(C2:Run c 70 [.int .i64 r,.int .i64 i] zs1 d2 zs2 (.tuple #[.int .i64 x,.int .i64 e2]))(C3:Run c 88 [.int .i64 x] zs2 d3 zs3 (.bool b)):Run c 138 [] zs (1+1+d1+d2+d3+1) (zs3.set 15 (i+1)) (.bool true):=fun p m w hG=>by
 have hni:¬n≤i:=by omega
 have hw2:IntKind.i64.wrap (i+1)=i+1:=IntWalk.i64_in _ (by omega)
 have HR14:=hid h14
 have hrb:(r==0)=false:=by rw[beq_eq_false_iff_ne];exact hr
 clear h14 hr
 have HR15:=hid h15
 clear h15
 have HG:=hid hG
 have HC1:=hid C1
 have HC2:=hid C2
 have HC3:=hid C3
 clear hG C1 C2 C3
 go_enter Tryz.func138,Tryz.ntmps138
 have HT0:Hid (Touch (inG p) w w):=hid (Touch.refl _ _)
 go_wp2_with fail
 refine(gQ p c _ 14 _ _ _ HG.out (by omega) rfl HR14.out).mono ?_
 rintro e wm1 ⟨rfl,hG,hT⟩
 have HG1:=hid hG
 have HT1:Hid (Touch (inG p) _ wm1):=hid (HT0.out.trans hT)
 clear hG hT
 go_wp2_with fail
 refine(gQ p c _ 15 _ _ _ HG1.out (by omega) rfl HR15.out).mono ?_
 rintro e wm2 ⟨rfl,hG,hT⟩
 have HG2:=hid hG
 have HT2:Hid (Touch (inG p) _ wm2):=hid (HT1.out.trans hT)
 clear hG hT
 go_wp2_with fail
 refine(HC1.out p _ _ HG2.out).mono ?_
 rintro e wm3 ⟨rfl,hG,hT⟩
 have HG3:=hid hG
 have HT3:Hid (Touch (inG p) _ wm3):=hid (HT2.out.trans hT)
 clear hG hT
 go_wp2_with fail
 refine(HC2.out p _ _ HG3.out).mono ?_
 rintro e wm4 ⟨rfl,hG,hT⟩
 have HG4:=hid hG
 have HT4:Hid (Touch (inG p) _ wm4):=hid (HT3.out.trans hT)
 clear hG hT
 go_wp2_with fail
 refine(HC3.out p _ _ HG4.out).mono ?_
 rintro e wm5 ⟨rfl,hG,hT⟩
 have HG5:=hid hG
 have HT5:Hid (Touch (inG p) _ wm5):=hid (HT4.out.trans hT)
 clear hG hT
 go_wp2_with fail
 refine(aO p c _ 15 _ (i+1) _ HG5.out (by omega) rfl (by omega) (by omega)).mono ?_
 rintro e wm6 ⟨rfl,hG,hT⟩
 have HG6:=hid hG
 have HT6:Hid (Touch (inG p) _ wm6):=hid (HT5.out.trans hT)
 clear hG hT
 go_wp2_with fail
 go_ret
 exact⟨rfl,HG6.out.fO rfl (by dsimp only[St.got,St.set]<;>omega),HT6.out⟩
set_option maxHeartbeats 1000000 in
theorem zL{b:Int}(C1:Run c 183 [] zs d1 zs1 (.tuple #[.int .i64 b,.bool false])):Run c 139 [] zs (d1) zs1 (.bool false):=fun p m w hG=>by
 have HG:=hid hG
 have HC1:=hid C1
 clear hG C1
 go_enter Tryz.func139,Tryz.ntmps139
 have HT0:Hid (Touch (inG p) w w):=hid (Touch.refl _ _)
 go_wp2_with fail
 refine(HC1.out p _ _ HG.out).mono ?_
 rintro e wm1 ⟨rfl,hG,hT⟩
 have HG1:=hid hG
 have HT1:Hid (Touch (inG p) _ wm1):=hid (HT0.out.trans hT)
 clear hG hT
 go_wp2_with fail
 go_ret
 exact⟨rfl,HG1.out,HT1.out⟩
set_option maxHeartbeats 1000000 in
theorem Iw{b:Nat}(hb:b<4294967295)(C1:Run c 183 [] zs d1 zs1 (.tuple #[.int .i64 (b:Int),.bool true])):Run c 139 [] zs (d1+1+1) ((zs1.set 14 ((b:Int)+1)).set 15 0) (.bool true):=fun p m w hG=>by
 have hw1:IntKind.i64.wrap ((b:Int)+1)=(b:Int)+1:=IntWalk.i64_in _ (by omega)
 have HG:=hid hG
 have HC1:=hid C1
 clear hG C1
 go_enter Tryz.func139,Tryz.ntmps139
 have HT0:Hid (Touch (inG p) w w):=hid (Touch.refl _ _)
 go_wp2_with fail
 refine(HC1.out p _ _ HG.out).mono ?_
 rintro e wm1 ⟨rfl,hG,hT⟩
 have HG1:=hid hG
 have HT1:Hid (Touch (inG p) _ wm1):=hid (HT0.out.trans hT)
 clear hG hT
 go_wp2_with fail
 refine(aO p c _ 14 _ ((b:Int)+1) _ HG1.out (by omega) rfl (by omega) (by omega)).mono ?_
 rintro e wm2 ⟨rfl,hG,hT⟩
 have HG2:=hid hG
 have HT2:Hid (Touch (inG p) _ wm2):=hid (HT1.out.trans hT)
 clear hG hT
 go_wp2_with fail
 refine(aO p c _ 15 _ 0 _ HG2.out (by omega) rfl (by omega) (by omega)).mono ?_
 rintro e wm3 ⟨rfl,hG,hT⟩
 have HG3:=hid hG
 have HT3:Hid (Touch (inG p) _ wm3):=hid (HT2.out.trans hT)
 clear hG hT
 go_wp2_with fail
 go_ret
 exact⟨rfl,HG3.out.fO rfl (by dsimp only[St.got,St.set]<;>omega),HT3.out⟩
set_option maxHeartbeats 1000000 in
theorem Ch{k f:Int}(hk:(c.N:Int)≤k)(C1:Run c 47 [] zs d1 zs1 (.tuple #[.int .i64 k,.int .i64 f])):Run c 140 [] zs (d1) zs1 (.bool false):=fun p m w hG=>by
 have hfc:=bW (c.N:Int) (c.W:Int) (c.R:Int) (c.K:Int)
 have hkn:(c.N:Int)≤k:=hk
 clear hk
 have HG:=hid hG
 have HC1:=hid C1
 clear hG C1
 go_enter Tryz.func140,Tryz.ntmps140
 have HT0:Hid (Touch (inG p) w w):=hid (Touch.refl _ _)
 go_wp2_with fail
 refine(HC1.out p _ _ HG.out).mono ?_
 rintro e wm1 ⟨rfl,hG,hT⟩
 have HG1:=hid hG
 have HT1:Hid (Touch (inG p) _ wm1):=hid (HT0.out.trans hT)
 clear hG hT
 go_wp2_with fail
 refine(cZ p c _ _ HG1.out).mono ?_
 rintro e wm2 ⟨rfl,hb⟩
 have HG2:=hid (HG1.out.later hb)
 have HT2:Hid (Touch (inG p) _ wm2):=hid (HT1.out.trans (Touch.of_below hb))
 clear hb
 go_wp2_with fail
 go_ret
 exact⟨rfl,HG2.out,HT2.out⟩
set_option maxHeartbeats 1000000 in
theorem zN{k f:Int}{b:Bool}(h0:0≤k)(hk:k<(c.N:Int))(hm:c.May)(C1:Run c 47 [] zs d1 zs1 (.tuple #[.int .i64 k,.int .i64 f]))(C2:Run c 49 [.int .i64 (k+1)] zs1 d2 zs2 (.bool false))(C3:Run c 53 [.int .i64 (k+1),.int .i64 f] zs2 d3 zs3 (.bool b)):Run c 140 [] zs (d1+d2+d3) zs3 (.bool b):=fun p m w hG=>by
 have hfc:=bW (c.N:Int) (c.W:Int) (c.R:Int) (c.K:Int)
 have hmn:=hm.n
 have hkn:¬(c.N:Int)≤k:=by omega
 have hw1:IntKind.i64.wrap (k+1)=k+1:=IntWalk.i64_in _ (by omega)
 clear hm hmn
 have HG:=hid hG
 have HC1:=hid C1
 have HC2:=hid C2
 have HC3:=hid C3
 clear hG C1 C2 C3
 go_enter Tryz.func140,Tryz.ntmps140
 have HT0:Hid (Touch (inG p) w w):=hid (Touch.refl _ _)
 go_wp2_with fail
 refine(HC1.out p _ _ HG.out).mono ?_
 rintro e wm1 ⟨rfl,hG,hT⟩
 have HG1:=hid hG
 have HT1:Hid (Touch (inG p) _ wm1):=hid (HT0.out.trans hT)
 clear hG hT
 go_wp2_with fail
 refine(cZ p c _ _ HG1.out).mono ?_
 rintro e wm2 ⟨rfl,hb⟩
 have HG2:=hid (HG1.out.later hb)
 have HT2:Hid (Touch (inG p) _ wm2):=hid (HT1.out.trans (Touch.of_below hb))
 clear hb
 go_wp2_with fail
 refine(HC2.out p _ _ HG2.out).mono ?_
 rintro e wm3 ⟨rfl,hG,hT⟩
 have HG3:=hid hG
 have HT3:Hid (Touch (inG p) _ wm3):=hid (HT2.out.trans hT)
 clear hG hT
 go_wp2_with fail
 refine(HC3.out p _ _ HG3.out).mono ?_
 rintro e wm4 ⟨rfl,hG,hT⟩
 have HG4:=hid hG
 have HT4:Hid (Touch (inG p) _ wm4):=hid (HT3.out.trans hT)
 clear hG hT
 go_wp2_with fail
 go_ret
 exact⟨rfl,HG4.out.fO rfl (by dsimp only;omega),HT4.out⟩
set_option maxHeartbeats 1000000 in
theorem zM{k f:Int}{b:Bool}(h0:0≤k)(hk:k<(c.N:Int))(hm:c.May)(C1:Run c 47 [] zs d1 zs1 (.tuple #[.int .i64 k,.int .i64 f]))(C2:Run c 49 [.int .i64 (k+1)] zs1 d2 zs2 (.bool true))(C3:Run c 50 [.int .i64 (k+1)] zs2 d3 zs3 (.bool true))(C4:Run c 53 [.int .i64 (k+1),.int .i64 f] zs3 d4 zs4 (.bool b)):Run c 140 [] zs (d1+d2+d3+d4) zs4 (.bool b):=fun p m w hG=>by
 have hfc:=bW (c.N:Int) (c.W:Int) (c.R:Int) (c.K:Int)
 have hmn:=hm.n
 have hkn:¬(c.N:Int)≤k:=by omega
 have hw1:IntKind.i64.wrap (k+1)=k+1:=IntWalk.i64_in _ (by omega)
 clear hm hmn
 have HG:=hid hG
 have HC1:=hid C1
 have HC2:=hid C2
 have HC3:=hid C3
 have HC4:=hid C4
 clear hG C1 C2 C3 C4
 go_enter Tryz.func140,Tryz.ntmps140
 have HT0:Hid (Touch (inG p) w w):=hid (Touch.refl _ _)
 go_wp2_with fail
 refine(HC1.out p _ _ HG.out).mono ?_
 rintro e wm1 ⟨rfl,hG,hT⟩
 have HG1:=hid hG
 have HT1:Hid (Touch (inG p) _ wm1):=hid (HT0.out.trans hT)
 clear hG hT
 go_wp2_with fail
 refine(cZ p c _ _ HG1.out).mono ?_
 rintro e wm2 ⟨rfl,hb⟩
 have HG2:=hid (HG1.out.later hb)
 have HT2:Hid (Touch (inG p) _ wm2):=hid (HT1.out.trans (Touch.of_below hb))
 clear hb
 go_wp2_with fail
 refine(HC2.out p _ _ HG2.out).mono ?_
 rintro e wm3 ⟨rfl,hG,hT⟩
 have HG3:=hid hG
 have HT3:Hid (Touch (inG p) _ wm3):=hid (HT2.out.trans hT)
 clear hG hT
 go_wp2_with fail
 refine(HC3.out p _ _ HG3.out).mono ?_
 rintro e wm4 ⟨rfl,hG,hT⟩
 have HG4:=hid hG
 have HT4:Hid (Touch (inG p) _ wm4):=hid (HT3.out.trans hT)
 clear hG hT
 go_wp2_with fail
 refine(HC4.out p _ _ HG4.out).mono ?_
 rintro e wm5 ⟨rfl,hG,hT⟩
 have HG5:=hid hG
 have HT5:Hid (Touch (inG p) _ wm5):=hid (HT4.out.trans hT)
 clear hG hT
 go_wp2_with fail
 go_ret
 exact⟨rfl,HG5.out.fO rfl (by dsimp only;omega),HT5.out⟩
set_option maxHeartbeats 1000000 in
theorem Ci{k f n s:Int}{b:Bool}(h0:0≤k)(hk:k<(c.N:Int))(hm:c.May)(hn:n≤s)(C1:Run c 47 [] zs d1 zs1 (.tuple #[.int .i64 k,.int .i64 f]))(C2:Run c 49 [.int .i64 (k+1)] zs1 d2 zs2 (.bool true))(C3:Run c 50 [.int .i64 (k+1)] zs2 d3 zs3 (.bool false))(C4:Run c 184 [.int .i64 (k+1)] zs3 d4 zs4 (.tuple #[]))(C5:Run c 33 [.int .i64 (k+1)] zs4 d5 zs5 (.int .i64 n))(C6:Run c 121 [.int .i64 (k+1)] zs5 d6 zs6 (.int .i64 s))(C7:Run c 53 [.int .i64 (k+1),.int .i64 f] zs6 d7 zs7 (.bool b)):Run c 140 [] zs (d1+d2+d3+d4+d5+d6+d7) zs7 (.bool b):=fun p m w hG=>by
 have hfc:=bW (c.N:Int) (c.W:Int) (c.R:Int) (c.K:Int)
 have hmn:=hm.n
 have hkn:¬(c.N:Int)≤k:=by omega
 have hw1:IntKind.i64.wrap (k+1)=k+1:=IntWalk.i64_in _ (by omega)
 clear hm hmn
 have hns:¬s<n:=by omega
 have HG:=hid hG
 have HC1:=hid C1
 have HC2:=hid C2
 have HC3:=hid C3
 have HC4:=hid C4
 have HC5:=hid C5
 have HC6:=hid C6
 have HC7:=hid C7
 clear hG C1 C2 C3 C4 C5 C6 C7
 go_enter Tryz.func140,Tryz.ntmps140
 have HT0:Hid (Touch (inG p) w w):=hid (Touch.refl _ _)
 go_wp2_with fail
 refine(HC1.out p _ _ HG.out).mono ?_
 rintro e wm1 ⟨rfl,hG,hT⟩
 have HG1:=hid hG
 have HT1:Hid (Touch (inG p) _ wm1):=hid (HT0.out.trans hT)
 clear hG hT
 go_wp2_with fail
 refine(cZ p c _ _ HG1.out).mono ?_
 rintro e wm2 ⟨rfl,hb⟩
 have HG2:=hid (HG1.out.later hb)
 have HT2:Hid (Touch (inG p) _ wm2):=hid (HT1.out.trans (Touch.of_below hb))
 clear hb
 go_wp2_with fail
 refine(HC2.out p _ _ HG2.out).mono ?_
 rintro e wm3 ⟨rfl,hG,hT⟩
 have HG3:=hid hG
 have HT3:Hid (Touch (inG p) _ wm3):=hid (HT2.out.trans hT)
 clear hG hT
 go_wp2_with fail
 refine(HC3.out p _ _ HG3.out).mono ?_
 rintro e wm4 ⟨rfl,hG,hT⟩
 have HG4:=hid hG
 have HT4:Hid (Touch (inG p) _ wm4):=hid (HT3.out.trans hT)
 clear hG hT
 go_wp2_with fail
 refine(HC4.out p _ _ HG4.out).mono ?_
 rintro e wm5 ⟨rfl,hG,hT⟩
 have HG5:=hid hG
 have HT5:Hid (Touch (inG p) _ wm5):=hid (HT4.out.trans hT)
 clear hG hT
 go_wp2_with fail
 refine(HC5.out p _ _ HG5.out).mono ?_
 rintro e wm6 ⟨rfl,hG,hT⟩
 have HG6:=hid hG
 have HT6:Hid (Touch (inG p) _ wm6):=hid (HT5.out.trans hT)
 clear hG hT
 go_wp2_with fail
 refine(HC6.out p _ _ HG6.out).mono ?_
 rintro e wm7 ⟨rfl,hG,hT⟩
 have HG7:=hid hG
 have HT7:Hid (Touch (inG p) _ wm7):=hid (HT6.out.trans hT)
 clear hG hT
 go_wp2_with fail
 refine(HC7.out p _ _ HG7.out).mono ?_
 rintro e wm8 ⟨rfl,hG,hT⟩
 have HG8:=hid hG
 have HT8:Hid (Touch (inG p) _ wm8):=hid (HT7.out.trans hT)
 clear hG hT
 go_wp2_with fail
 go_ret
 exact⟨rfl,HG8.out.fO rfl (by dsimp only;omega),HT8.out⟩
set_option maxHeartbeats 1000000 in
theorem EI{k f n s:Int}{b b2:Bool}(h0:0≤k)(hk:k<(c.N:Int))(hm:c.May)(hn:s<n)(C1:Run c 47 [] zs d1 zs1 (.tuple #[.int .i64 k,.int .i64 f]))(C2:Run c 49 [.int .i64 (k+1)] zs1 d2 zs2 (.bool true))(C3:Run c 50 [.int .i64 (k+1)] zs2 d3 zs3 (.bool false))(C4:Run c 184 [.int .i64 (k+1)] zs3 d4 zs4 (.tuple #[]))(C5:Run c 33 [.int .i64 (k+1)] zs4 d5 zs5 (.int .i64 n))(C6:Run c 121 [.int .i64 (k+1)] zs5 d6 zs6 (.int .i64 s))(C7:Run c 88 [.int .i64 (k+1)] zs6 d7 zs7 (.bool b2))(C8:Run c 53 [.int .i64 (k+1),.int .i64 f] zs7 d8 zs8 (.bool b)):Run c 140 [] zs (d1+d2+d3+d4+d5+d6+d7+d8) zs8 (.bool b):=fun p m w hG=>by
 have hfc:=bW (c.N:Int) (c.W:Int) (c.R:Int) (c.K:Int)
 have hmn:=hm.n
 have hkn:¬(c.N:Int)≤k:=by omega
 have hw1:IntKind.i64.wrap (k+1)=k+1:=IntWalk.i64_in _ (by omega)
 clear hm hmn
 have HG:=hid hG
 have HC1:=hid C1
 have HC2:=hid C2
 have HC3:=hid C3
 have HC4:=hid C4
 have HC5:=hid C5
 have HC6:=hid C6
 have HC7:=hid C7
 have HC8:=hid C8
 clear hG C1 C2 C3 C4 C5 C6 C7 C8
 go_enter Tryz.func140,Tryz.ntmps140
 have HT0:Hid (Touch (inG p) w w):=hid (Touch.refl _ _)
 go_wp2_with fail
 refine(HC1.out p _ _ HG.out).mono ?_
 rintro e wm1 ⟨rfl,hG,hT⟩
 have HG1:=hid hG
 have HT1:Hid (Touch (inG p) _ wm1):=hid (HT0.out.trans hT)
 clear hG hT
 go_wp2_with fail
 refine(cZ p c _ _ HG1.out).mono ?_
 rintro e wm2 ⟨rfl,hb⟩
 have HG2:=hid (HG1.out.later hb)
 have HT2:Hid (Touch (inG p) _ wm2):=hid (HT1.out.trans (Touch.of_below hb))
 clear hb
 go_wp2_with fail
 refine(HC2.out p _ _ HG2.out).mono ?_
 rintro e wm3 ⟨rfl,hG,hT⟩
 have HG3:=hid hG
 have HT3:Hid (Touch (inG p) _ wm3):=hid (HT2.out.trans hT)
 clear hG hT
 go_wp2_with fail
 refine(HC3.out p _ _ HG3.out).mono ?_
 rintro e wm4 ⟨rfl,hG,hT⟩
 have HG4:=hid hG
 have HT4:Hid (Touch (inG p) _ wm4):=hid (HT3.out.trans hT)
 clear hG hT
 go_wp2_with fail
 refine(HC4.out p _ _ HG4.out).mono ?_
 rintro e wm5 ⟨rfl,hG,hT⟩
 have HG5:=hid hG
 have HT5:Hid (Touch (inG p) _ wm5):=hid (HT4.out.trans hT)
 clear hG hT
 go_wp2_with fail
 refine(HC5.out p _ _ HG5.out).mono ?_
 rintro e wm6 ⟨rfl,hG,hT⟩
 have HG6:=hid hG
 have HT6:Hid (Touch (inG p) _ wm6):=hid (HT5.out.trans hT)
 clear hG hT
 go_wp2_with fail
 refine(HC6.out p _ _ HG6.out).mono ?_
 rintro e wm7 ⟨rfl,hG,hT⟩
 have HG7:=hid hG
 have HT7:Hid (Touch (inG p) _ wm7):=hid (HT6.out.trans hT)
 clear hG hT
 go_wp2_with fail
 refine(HC7.out p _ _ HG7.out).mono ?_
 rintro e wm8 ⟨rfl,hG,hT⟩
 have HG8:=hid hG
 have HT8:Hid (Touch (inG p) _ wm8):=hid (HT7.out.trans hT)
 clear hG hT
 go_wp2_with fail
 refine(HC8.out p _ _ HG8.out).mono ?_
 rintro e wm9 ⟨rfl,hG,hT⟩
 have HG9:=hid hG
 have HT9:Hid (Touch (inG p) _ wm9):=hid (HT8.out.trans hT)
 clear hG hT
 go_wp2_with fail
 go_ret
 exact⟨rfl,HG9.out.fO rfl (by dsimp only;omega),HT9.out⟩
set_option maxHeartbeats 1000000 in
theorem xu{v:Int}(hv:v≠2)(C1:Run c 48 [] zs d1 zs1 (.int .i64 v)):Run c 77 [] zs (d1) zs1 (.bool false):=fun p m w hG=>by
 have hvb:(v==2)=false:=by rw[beq_eq_false_iff_ne];exact hv
 clear hv
 have HG:=hid hG
 have HC1:=hid C1
 clear hG C1
 go_enter Tryz.func77,Tryz.ntmps77
 have HT0:Hid (Touch (inG p) w w):=hid (Touch.refl _ _)
 go_wp2_with fail
 refine(HC1.out p _ _ HG.out).mono ?_
 rintro e wm1 ⟨rfl,hG,hT⟩
 have HG1:=hid hG
 have HT1:Hid (Touch (inG p) _ wm1):=hid (HT0.out.trans hT)
 clear hG hT
 go_wp2_with fail
 go_ret
 exact⟨rfl,HG1.out,HT1.out⟩
set_option maxHeartbeats 1000000 in
theorem zK(C1:Run c 48 [] zs d1 zs1 (.int .i64 2))(C2:Run c 138 [] zs1 d2 zs2 (.bool true)):Run c 77 [] zs (d1+d2) zs2 (.bool true):=fun p m w hG=>by
 have HG:=hid hG
 have HC1:=hid C1
 have HC2:=hid C2
 clear hG C1 C2
 go_enter Tryz.func77,Tryz.ntmps77
 have HT0:Hid (Touch (inG p) w w):=hid (Touch.refl _ _)
 go_wp2_with fail
 refine(HC1.out p _ _ HG.out).mono ?_
 rintro e wm1 ⟨rfl,hG,hT⟩
 have HG1:=hid hG
 have HT1:Hid (Touch (inG p) _ wm1):=hid (HT0.out.trans hT)
 clear hG hT
 go_wp2_with fail
 refine(HC2.out p _ _ HG1.out).mono ?_
 rintro e wm2 ⟨rfl,hG,hT⟩
 have HG2:=hid hG
 have HT2:Hid (Touch (inG p) _ wm2):=hid (HT1.out.trans hT)
 clear hG hT
 go_wp2_with fail
 go_ret
 exact⟨rfl,HG2.out.fO rfl (by dsimp only;omega),HT2.out⟩
set_option maxHeartbeats 1000000 in
theorem vk(C1:Run c 48 [] zs d1 zs1 (.int .i64 2))(C2:Run c 138 [] zs1 d2 zs2 (.bool false))(C3:Run c 139 [] zs2 d3 zs3 (.bool true)):Run c 77 [] zs (d1+d2+d3) zs3 (.bool true):=fun p m w hG=>by
 have HG:=hid hG
 have HC1:=hid C1
 have HC2:=hid C2
 have HC3:=hid C3
 clear hG C1 C2 C3
 go_enter Tryz.func77,Tryz.ntmps77
 have HT0:Hid (Touch (inG p) w w):=hid (Touch.refl _ _)
 go_wp2_with fail
 refine(HC1.out p _ _ HG.out).mono ?_
 rintro e wm1 ⟨rfl,hG,hT⟩
 have HG1:=hid hG
 have HT1:Hid (Touch (inG p) _ wm1):=hid (HT0.out.trans hT)
 clear hG hT
 go_wp2_with fail
 refine(HC2.out p _ _ HG1.out).mono ?_
 rintro e wm2 ⟨rfl,hG,hT⟩
 have HG2:=hid hG
 have HT2:Hid (Touch (inG p) _ wm2):=hid (HT1.out.trans hT)
 clear hG hT
 go_wp2_with fail
 refine(HC3.out p _ _ HG2.out).mono ?_
 rintro e wm3 ⟨rfl,hG,hT⟩
 have HG3:=hid hG
 have HT3:Hid (Touch (inG p) _ wm3):=hid (HT2.out.trans hT)
 clear hG hT
 go_wp2_with fail
 go_ret
 exact⟨rfl,HG3.out.fO rfl (by dsimp only;omega),HT3.out⟩
set_option maxHeartbeats 1000000 in
theorem qy{b:Bool}(C1:Run c 48 [] zs d1 zs1 (.int .i64 2))(C2:Run c 138 [] zs1 d2 zs2 (.bool false))(C3:Run c 139 [] zs2 d3 zs3 (.bool false))(C4:Run c 140 [] zs3 d4 zs4 (.bool b)):Run c 77 [] zs (d1+d2+d3+d4) zs4 (.bool b):=fun p m w hG=>by
 have HG:=hid hG
 have HC1:=hid C1
 have HC2:=hid C2
 have HC3:=hid C3
 have HC4:=hid C4
 clear hG C1 C2 C3 C4
 go_enter Tryz.func77,Tryz.ntmps77
 have HT0:Hid (Touch (inG p) w w):=hid (Touch.refl _ _)
 go_wp2_with fail
 refine(HC1.out p _ _ HG.out).mono ?_
 rintro e wm1 ⟨rfl,hG,hT⟩
 have HG1:=hid hG
 have HT1:Hid (Touch (inG p) _ wm1):=hid (HT0.out.trans hT)
 clear hG hT
 go_wp2_with fail
 refine(HC2.out p _ _ HG1.out).mono ?_
 rintro e wm2 ⟨rfl,hG,hT⟩
 have HG2:=hid hG
 have HT2:Hid (Touch (inG p) _ wm2):=hid (HT1.out.trans hT)
 clear hG hT
 go_wp2_with fail
 refine(HC3.out p _ _ HG2.out).mono ?_
 rintro e wm3 ⟨rfl,hG,hT⟩
 have HG3:=hid hG
 have HT3:Hid (Touch (inG p) _ wm3):=hid (HT2.out.trans hT)
 clear hG hT
 go_wp2_with fail
 refine(HC4.out p _ _ HG3.out).mono ?_
 rintro e wm4 ⟨rfl,hG,hT⟩
 have HG4:=hid hG
 have HT4:Hid (Touch (inG p) _ wm4):=hid (HT3.out.trans hT)
 clear hG hT
 go_wp2_with fail
 go_ret
 exact⟨rfl,HG4.out.fO rfl (by dsimp only;omega),HT4.out⟩
end
section
variable {c:Cf} {zs zs1 zs2 zs3 zs4 zs5 zs6 zs7:List Int} {d1 d2 d3 d4 d5 d6 d7:Nat}
set_option maxHeartbeats 1000000 in
theorem CE{r:Int}(C1:Run c 49 [.int .i64 r] zs d1 zs1 (.bool false)):Run c 73 [.int .i64 r] zs (d1) zs1 (.bool false):=fun p m w hG=>by
 have HG:=hid hG
 have HC1:=hid C1
 clear hG C1
 go_enter Tryz.func73,Tryz.ntmps73
 have HT0:Hid (Touch (inG p) w w):=hid (Touch.refl _ _)
 go_wp2_with fail
 refine(HC1.out p _ _ HG.out).mono ?_
 rintro e wm1 ⟨rfl,hG,hT⟩
 have HG1:=hid hG
 have HT1:Hid (Touch (inG p) _ wm1):=hid (HT0.out.trans hT)
 clear hG hT
 go_wp2_with fail
 go_ret
 exact⟨rfl,HG1.out,HT1.out⟩
set_option maxHeartbeats 1000000 in
theorem KY{r:Int}{b:Bool}(C1:Run c 49 [.int .i64 r] zs d1 zs1 (.bool true))(C2:Run c 50 [.int .i64 r] zs1 d2 zs2 (.bool b)):Run c 73 [.int .i64 r] zs (d1+d2) zs2 (.bool (!b)):=fun p m w hG=>by
 have HG:=hid hG
 have HC1:=hid C1
 have HC2:=hid C2
 clear hG C1 C2
 go_enter Tryz.func73,Tryz.ntmps73
 have HT0:Hid (Touch (inG p) w w):=hid (Touch.refl _ _)
 go_wp2_with fail
 refine(HC1.out p _ _ HG.out).mono ?_
 rintro e wm1 ⟨rfl,hG,hT⟩
 have HG1:=hid hG
 have HT1:Hid (Touch (inG p) _ wm1):=hid (HT0.out.trans hT)
 clear hG hT
 go_wp2_with fail
 refine(HC2.out p _ _ HG1.out).mono ?_
 rintro e wm2 ⟨rfl,hG,hT⟩
 have HG2:=hid hG
 have HT2:Hid (Touch (inG p) _ wm2):=hid (HT1.out.trans hT)
 clear hG hT
 go_wp2_with fail
 go_ret
 exact⟨rfl,HG2.out.fO rfl (by dsimp only;omega),HT2.out⟩
set_option maxHeartbeats 1000000 in
theorem Nr{r n:Int}{b:Bool}(C1:Run c 72 [.int .i64 r] zs d1 zs1 (.tuple #[.int .i64 n,.bool true]))(C2:Run c 88 [.int .i64 r] zs1 d2 zs2 (.bool b)):Run c 74 [.int .i64 r] zs (d1+d2) zs2 (.bool true):=fun p m w hG=>by
 have HG:=hid hG
 have HC1:=hid C1
 have HC2:=hid C2
 clear hG C1 C2
 go_enter Tryz.func74,Tryz.ntmps74
 have HT0:Hid (Touch (inG p) w w):=hid (Touch.refl _ _)
 go_wp2_with fail
 refine(HC1.out p _ _ HG.out).mono ?_
 rintro e wm1 ⟨rfl,hG,hT⟩
 have HG1:=hid hG
 have HT1:Hid (Touch (inG p) _ wm1):=hid (HT0.out.trans hT)
 clear hG hT
 go_wp2_with fail
 refine(HC2.out p _ _ HG1.out).mono ?_
 rintro e wm2 ⟨rfl,hG,hT⟩
 have HG2:=hid hG
 have HT2:Hid (Touch (inG p) _ wm2):=hid (HT1.out.trans hT)
 clear hG hT
 go_wp2_with fail
 go_ret
 exact⟨rfl,HG2.out.fO rfl (by dsimp only;omega),HT2.out⟩
set_option maxHeartbeats 1000000 in
theorem Nq{r n:Int}(hn:n≠0)(C1:Run c 111 [.int .i64 r] zs d1 zs1 (.tuple #[.int .i64 n,.bool true])):Run c 89 [.int .i64 r] zs (d1+1) (zs1.set 16 1) (.bool true):=fun p m w hG=>by
 have hnb:(n==0)=false:=neq_b hn
 clear hn
 have HG:=hid hG
 have HC1:=hid C1
 clear hG C1
 go_enter Tryz.func89,Tryz.ntmps89
 have HT0:Hid (Touch (inG p) w w):=hid (Touch.refl _ _)
 go_wp2_with fail
 refine(HC1.out p _ _ HG.out).mono ?_
 rintro e wm1 ⟨rfl,hG,hT⟩
 have HG1:=hid hG
 have HT1:Hid (Touch (inG p) _ wm1):=hid (HT0.out.trans hT)
 clear hG hT
 go_wp2_with fail
 refine(aO p c _ 16 _ 1 _ HG1.out (by omega) rfl (by omega) (by omega)).mono ?_
 rintro e wm2 ⟨rfl,hG,hT⟩
 have HG2:=hid hG
 have HT2:Hid (Touch (inG p) _ wm2):=hid (HT1.out.trans hT)
 clear hG hT
 go_wp2_with fail
 go_ret
 exact⟨rfl,HG2.out.fO rfl (by dsimp only[St.got,St.set];omega),HT2.out⟩
set_option maxHeartbeats 1000000 in
theorem KZ{r:Int}{b:Bool}(C1:Run c 111 [.int .i64 r] zs d1 zs1 (.tuple #[.int .i64 0,.bool true]))(C2:Run c 17 [.int .i64 r] (zs1.set 16 1) d2 zs2 (.bool b)):Run c 89 [.int .i64 r] zs (d1+1+d2) zs2 (.bool true):=fun p m w hG=>by
 have HG:=hid hG
 have HC1:=hid C1
 have HC2:=hid C2
 clear hG C1 C2
 go_enter Tryz.func89,Tryz.ntmps89
 have HT0:Hid (Touch (inG p) w w):=hid (Touch.refl _ _)
 go_wp2_with fail
 refine(HC1.out p _ _ HG.out).mono ?_
 rintro e wm1 ⟨rfl,hG,hT⟩
 have HG1:=hid hG
 have HT1:Hid (Touch (inG p) _ wm1):=hid (HT0.out.trans hT)
 clear hG hT
 go_wp2_with fail
 refine(aO p c _ 16 _ 1 _ HG1.out (by omega) rfl (by omega) (by omega)).mono ?_
 rintro e wm2 ⟨rfl,hG,hT⟩
 have HG2:=hid hG
 have HT2:Hid (Touch (inG p) _ wm2):=hid (HT1.out.trans hT)
 clear hG hT
 go_wp2_with fail
 refine(HC2.out p _ _ HG2.out).mono ?_
 rintro e wm3 ⟨rfl,hG,hT⟩
 have HG3:=hid hG
 have HT3:Hid (Touch (inG p) _ wm3):=hid (HT2.out.trans hT)
 clear hG hT
 go_wp2_with fail
 go_ret
 exact⟨rfl,HG3.out.fO rfl (by dsimp only[St.got,St.set];omega),HT3.out⟩
set_option maxHeartbeats 1000000 in
theorem EX{r:Int}(C1:Run c 73 [.int .i64 r] zs d1 zs1 (.bool false)):Run c 16 [.int .i64 r] zs (d1) zs1 (.bool false):=fun p m w hG=>by
 have HG:=hid hG
 have HC1:=hid C1
 clear hG C1
 go_enter Tryz.func16,Tryz.ntmps16
 have HT0:Hid (Touch (inG p) w w):=hid (Touch.refl _ _)
 go_wp2_with fail
 refine(HC1.out p _ _ HG.out).mono ?_
 rintro e wm1 ⟨rfl,hG,hT⟩
 have HG1:=hid hG
 have HT1:Hid (Touch (inG p) _ wm1):=hid (HT0.out.trans hT)
 clear hG hT
 go_wp2_with fail
 go_ret
 exact⟨rfl,HG1.out,HT1.out⟩
set_option maxHeartbeats 1000000 in
theorem Np{r:Int}{b:Bool}(C1:Run c 73 [.int .i64 r] zs d1 zs1 (.bool true))(C2:Run c 74 [.int .i64 r] zs1 d2 zs2 (.bool b)):Run c 16 [.int .i64 r] zs (d1+d2) zs2 (.bool b):=fun p m w hG=>by
 have HG:=hid hG
 have HC1:=hid C1
 have HC2:=hid C2
 clear hG C1 C2
 go_enter Tryz.func16,Tryz.ntmps16
 have HT0:Hid (Touch (inG p) w w):=hid (Touch.refl _ _)
 go_wp2_with fail
 refine(HC1.out p _ _ HG.out).mono ?_
 rintro e wm1 ⟨rfl,hG,hT⟩
 have HG1:=hid hG
 have HT1:Hid (Touch (inG p) _ wm1):=hid (HT0.out.trans hT)
 clear hG hT
 go_wp2_with fail
 refine(HC2.out p _ _ HG1.out).mono ?_
 rintro e wm2 ⟨rfl,hG,hT⟩
 have HG2:=hid hG
 have HT2:Hid (Touch (inG p) _ wm2):=hid (HT1.out.trans hT)
 clear hG hT
 go_wp2_with fail
 go_ret
 exact⟨rfl,HG2.out.fO rfl (by dsimp only;omega),HT2.out⟩
set_option maxHeartbeats 1000000 in
theorem lw_Let{r:Int}{b:Bool}(C1:Run c 73 [.int .i64 r] zs d1 zs1 (.bool true))(C2:Run c 89 [.int .i64 r] zs1 d2 zs2 (.bool b)):Run c 32 [.int .i64 r] zs (d1+d2) zs2 (.bool b):=fun p m w hG=>by
 have HG:=hid hG
 have HC1:=hid C1
 have HC2:=hid C2
 clear hG C1 C2
 go_enter Tryz.func32,Tryz.ntmps32
 have HT0:Hid (Touch (inG p) w w):=hid (Touch.refl _ _)
 go_wp2_with fail
 refine(HC1.out p _ _ HG.out).mono ?_
 rintro e wm1 ⟨rfl,hG,hT⟩
 have HG1:=hid hG
 have HT1:Hid (Touch (inG p) _ wm1):=hid (HT0.out.trans hT)
 clear hG hT
 go_wp2_with fail
 refine(HC2.out p _ _ HG1.out).mono ?_
 rintro e wm2 ⟨rfl,hG,hT⟩
 have HG2:=hid hG
 have HT2:Hid (Touch (inG p) _ wm2):=hid (HT1.out.trans hT)
 clear hG hT
 go_wp2_with fail
 go_ret
 exact⟨rfl,HG2.out.fO rfl (by dsimp only;omega),HT2.out⟩
set_option maxHeartbeats 1000000 in
theorem CB{r i y k:Int}(hk:¬0<k)(C1:Run c 73 [.int .i64 r] zs d1 zs1 (.bool true))(C2:Run c 70 [.int .i64 r,.int .i64 i] zs1 d2 zs2 (.tuple #[.int .i64 y,.int .i64 0]))(C3:Run c 71 [.int .i64 r,.int .i64 i,.int .i64 0] zs2 d3 zs3 (.int .i64 0))(C4:Run c 33 [.int .i64 y] zs3 d4 zs4 (.int .i64 k)):Run c 31 [.int .i64 r,.int .i64 i,.int .i64 0] zs (d1+d2+d3+d4) zs4 (.int .i64 0):=fun p m w hG=>by
 have hkz:¬0<k:=hk
 clear hk
 have HG:=hid hG
 have HC1:=hid C1
 have HC2:=hid C2
 have HC3:=hid C3
 have HC4:=hid C4
 clear hG C1 C2 C3 C4
 go_enter Tryz.func31,Tryz.ntmps31
 have HT0:Hid (Touch (inG p) w w):=hid (Touch.refl _ _)
 go_wp2_with fail
 refine(HC1.out p _ _ HG.out).mono ?_
 rintro e wm1 ⟨rfl,hG,hT⟩
 have HG1:=hid hG
 have HT1:Hid (Touch (inG p) _ wm1):=hid (HT0.out.trans hT)
 clear hG hT
 go_wp2_with fail
 refine(HC2.out p _ _ HG1.out).mono ?_
 rintro e wm2 ⟨rfl,hG,hT⟩
 have HG2:=hid hG
 have HT2:Hid (Touch (inG p) _ wm2):=hid (HT1.out.trans hT)
 clear hG hT
 go_wp2_with fail
 refine(HC3.out p _ _ HG2.out).mono ?_
 rintro e wm3 ⟨rfl,hG,hT⟩
 have HG3:=hid hG
 have HT3:Hid (Touch (inG p) _ wm3):=hid (HT2.out.trans hT)
 clear hG hT
 go_wp2_with fail
 refine(HC4.out p _ _ HG3.out).mono ?_
 rintro e wm4 ⟨rfl,hG,hT⟩
 have HG4:=hid hG
 have HT4:Hid (Touch (inG p) _ wm4):=hid (HT3.out.trans hT)
 clear hG hT
 go_wp2_with fail
 go_ret
 exact⟨rfl,HG4.out.fO rfl (by dsimp only;omega),HT4.out⟩
set_option maxHeartbeats 1000000 in
theorem Ad{r i y k:Int}{b b2:Bool}(hk:0<k)(C1:Run c 73 [.int .i64 r] zs d1 zs1 (.bool true))(C2:Run c 70 [.int .i64 r,.int .i64 i] zs1 d2 zs2 (.tuple #[.int .i64 y,.int .i64 0]))(C3:Run c 71 [.int .i64 r,.int .i64 i,.int .i64 0] zs2 d3 zs3 (.int .i64 0))(C4:Run c 33 [.int .i64 y] zs3 d4 zs4 (.int .i64 k))(C5:Run c 88 [.int .i64 y] zs4 d5 zs5 (.bool b))(C6:Run c 89 [.int .i64 y] zs5 d6 zs6 (.bool b2)):Run c 31 [.int .i64 r,.int .i64 i,.int .i64 0] zs (d1+d2+d3+d4+d5+d6) zs6 (.int .i64 0):=fun p m w hG=>by
 have hkp:0<k:=hk
 clear hk
 have HG:=hid hG
 have HC1:=hid C1
 have HC2:=hid C2
 have HC3:=hid C3
 have HC4:=hid C4
 have HC5:=hid C5
 have HC6:=hid C6
 clear hG C1 C2 C3 C4 C5 C6
 go_enter Tryz.func31,Tryz.ntmps31
 have HT0:Hid (Touch (inG p) w w):=hid (Touch.refl _ _)
 go_wp2_with fail
 refine(HC1.out p _ _ HG.out).mono ?_
 rintro e wm1 ⟨rfl,hG,hT⟩
 have HG1:=hid hG
 have HT1:Hid (Touch (inG p) _ wm1):=hid (HT0.out.trans hT)
 clear hG hT
 go_wp2_with fail
 refine(HC2.out p _ _ HG1.out).mono ?_
 rintro e wm2 ⟨rfl,hG,hT⟩
 have HG2:=hid hG
 have HT2:Hid (Touch (inG p) _ wm2):=hid (HT1.out.trans hT)
 clear hG hT
 go_wp2_with fail
 refine(HC3.out p _ _ HG2.out).mono ?_
 rintro e wm3 ⟨rfl,hG,hT⟩
 have HG3:=hid hG
 have HT3:Hid (Touch (inG p) _ wm3):=hid (HT2.out.trans hT)
 clear hG hT
 go_wp2_with fail
 refine(HC4.out p _ _ HG3.out).mono ?_
 rintro e wm4 ⟨rfl,hG,hT⟩
 have HG4:=hid hG
 have HT4:Hid (Touch (inG p) _ wm4):=hid (HT3.out.trans hT)
 clear hG hT
 go_wp2_with fail
 refine(HC5.out p _ _ HG4.out).mono ?_
 rintro e wm5 ⟨rfl,hG,hT⟩
 have HG5:=hid hG
 have HT5:Hid (Touch (inG p) _ wm5):=hid (HT4.out.trans hT)
 clear hG hT
 go_wp2_with fail
 refine(HC6.out p _ _ HG5.out).mono ?_
 rintro e wm6 ⟨rfl,hG,hT⟩
 have HG6:=hid hG
 have HT6:Hid (Touch (inG p) _ wm6):=hid (HT5.out.trans hT)
 clear hG hT
 go_wp2_with fail
 go_ret
 exact⟨rfl,HG6.out.fO rfl (by dsimp only;omega),HT6.out⟩
set_option maxHeartbeats 1000000 in
theorem EZ{r i x y k:Int}(hx:x≠0)(hk:¬0<k)(C1:Run c 73 [.int .i64 r] zs d1 zs1 (.bool true))(C2:Run c 70 [.int .i64 r,.int .i64 i] zs1 d2 zs2 (.tuple #[.int .i64 y,.int .i64 0]))(C3:Run c 16 [.int .i64 x] zs2 d3 zs3 (.bool true))(C4:Run c 71 [.int .i64 r,.int .i64 i,.int .i64 x] zs3 d4 zs4 (.int .i64 0))(C5:Run c 33 [.int .i64 y] zs4 d5 zs5 (.int .i64 k)):Run c 31 [.int .i64 r,.int .i64 i,.int .i64 x] zs (d1+d2+d3+d4+d5) zs5 (.int .i64 0):=fun p m w hG=>by
 have hxb:(x !=0)=true:=by rw[bne_iff_ne];exact hx
 clear hx
 have hkz:¬0<k:=hk
 clear hk
 have HG:=hid hG
 have HC1:=hid C1
 have HC2:=hid C2
 have HC3:=hid C3
 have HC4:=hid C4
 have HC5:=hid C5
 clear hG C1 C2 C3 C4 C5
 go_enter Tryz.func31,Tryz.ntmps31
 have HT0:Hid (Touch (inG p) w w):=hid (Touch.refl _ _)
 go_wp2_with fail
 refine(HC1.out p _ _ HG.out).mono ?_
 rintro e wm1 ⟨rfl,hG,hT⟩
 have HG1:=hid hG
 have HT1:Hid (Touch (inG p) _ wm1):=hid (HT0.out.trans hT)
 clear hG hT
 go_wp2_with fail
 refine(HC2.out p _ _ HG1.out).mono ?_
 rintro e wm2 ⟨rfl,hG,hT⟩
 have HG2:=hid hG
 have HT2:Hid (Touch (inG p) _ wm2):=hid (HT1.out.trans hT)
 clear hG hT
 go_wp2_with fail
 refine(HC3.out p _ _ HG2.out).mono ?_
 rintro e wm3 ⟨rfl,hG,hT⟩
 have HG3:=hid hG
 have HT3:Hid (Touch (inG p) _ wm3):=hid (HT2.out.trans hT)
 clear hG hT
 go_wp2_with fail
 refine(HC4.out p _ _ HG3.out).mono ?_
 rintro e wm4 ⟨rfl,hG,hT⟩
 have HG4:=hid hG
 have HT4:Hid (Touch (inG p) _ wm4):=hid (HT3.out.trans hT)
 clear hG hT
 go_wp2_with fail
 refine(HC5.out p _ _ HG4.out).mono ?_
 rintro e wm5 ⟨rfl,hG,hT⟩
 have HG5:=hid hG
 have HT5:Hid (Touch (inG p) _ wm5):=hid (HT4.out.trans hT)
 clear hG hT
 go_wp2_with fail
 go_ret
 exact⟨rfl,HG5.out.fO rfl (by dsimp only;omega),HT5.out⟩
set_option maxHeartbeats 1000000 in
theorem Cz{r i x y k:Int}{b b2:Bool}(hx:x≠0)(hk:0<k)(C1:Run c 73 [.int .i64 r] zs d1 zs1 (.bool true))(C2:Run c 70 [.int .i64 r,.int .i64 i] zs1 d2 zs2 (.tuple #[.int .i64 y,.int .i64 0]))(C3:Run c 16 [.int .i64 x] zs2 d3 zs3 (.bool true))(C4:Run c 71 [.int .i64 r,.int .i64 i,.int .i64 x] zs3 d4 zs4 (.int .i64 0))(C5:Run c 33 [.int .i64 y] zs4 d5 zs5 (.int .i64 k))(C6:Run c 88 [.int .i64 y] zs5 d6 zs6 (.bool b))(C7:Run c 89 [.int .i64 y] zs6 d7 zs7 (.bool b2)):Run c 31 [.int .i64 r,.int .i64 i,.int .i64 x] zs (d1+d2+d3+d4+d5+d6+d7) zs7 (.int .i64 0):=fun p m w hG=>by
 have hxb:(x !=0)=true:=by rw[bne_iff_ne];exact hx
 clear hx
 have hkp:0<k:=hk
 clear hk
 have HG:=hid hG
 have HC1:=hid C1
 have HC2:=hid C2
 have HC3:=hid C3
 have HC4:=hid C4
 have HC5:=hid C5
 have HC6:=hid C6
 have HC7:=hid C7
 clear hG C1 C2 C3 C4 C5 C6 C7
 go_enter Tryz.func31,Tryz.ntmps31
 have HT0:Hid (Touch (inG p) w w):=hid (Touch.refl _ _)
 go_wp2_with fail
 refine(HC1.out p _ _ HG.out).mono ?_
 rintro e wm1 ⟨rfl,hG,hT⟩
 have HG1:=hid hG
 have HT1:Hid (Touch (inG p) _ wm1):=hid (HT0.out.trans hT)
 clear hG hT
 go_wp2_with fail
 refine(HC2.out p _ _ HG1.out).mono ?_
 rintro e wm2 ⟨rfl,hG,hT⟩
 have HG2:=hid hG
 have HT2:Hid (Touch (inG p) _ wm2):=hid (HT1.out.trans hT)
 clear hG hT
 go_wp2_with fail
 refine(HC3.out p _ _ HG2.out).mono ?_
 rintro e wm3 ⟨rfl,hG,hT⟩
 have HG3:=hid hG
 have HT3:Hid (Touch (inG p) _ wm3):=hid (HT2.out.trans hT)
 clear hG hT
 go_wp2_with fail
 refine(HC4.out p _ _ HG3.out).mono ?_
 rintro e wm4 ⟨rfl,hG,hT⟩
 have HG4:=hid hG
 have HT4:Hid (Touch (inG p) _ wm4):=hid (HT3.out.trans hT)
 clear hG hT
 go_wp2_with fail
 refine(HC5.out p _ _ HG4.out).mono ?_
 rintro e wm5 ⟨rfl,hG,hT⟩
 have HG5:=hid hG
 have HT5:Hid (Touch (inG p) _ wm5):=hid (HT4.out.trans hT)
 clear hG hT
 go_wp2_with fail
 refine(HC6.out p _ _ HG5.out).mono ?_
 rintro e wm6 ⟨rfl,hG,hT⟩
 have HG6:=hid hG
 have HT6:Hid (Touch (inG p) _ wm6):=hid (HT5.out.trans hT)
 clear hG hT
 go_wp2_with fail
 refine(HC7.out p _ _ HG6.out).mono ?_
 rintro e wm7 ⟨rfl,hG,hT⟩
 have HG7:=hid hG
 have HT7:Hid (Touch (inG p) _ wm7):=hid (HT6.out.trans hT)
 clear hG hT
 go_wp2_with fail
 go_ret
 exact⟨rfl,HG7.out.fO rfl (by dsimp only;omega),HT7.out⟩
end
section
variable {c:Cf} {D:Wd} {t u:Th} {r x y:Int} {zs:List Int} {hold:Nat→Nat}
theorem ld_alive(hr:In64 r):Does c D 73 [.int .i64 r] 14 D (.bool (D.aliveB r)):=fun zs hz R=>by
 obtain⟨zs1,⟨d1,hd1,C1⟩,R1,hz1⟩:=(Gw (c:=c) (D:=D) hr).at hz R
 cases hf:D.find r with
 |none=>
  rw[hf] at C1
  rw[BB hf]
  exact⟨zs1,⟨d1,by omega,CE C1⟩,R1⟩
 |some t=>
  rw[hf] at C1
  obtain⟨zs2,⟨d2,hd2,C2⟩,R2,hz2⟩:=(tintFns.dead c D r hr).at hz1 R1
  rw[show D.aliveB r= !D.dead r by unfold Wd.aliveB;rw[hf];rfl]
  exact⟨zs2,⟨d1+d2,by omega,KY C1 C2⟩,R2⟩
theorem ld_more(hf:D.find r=some t)(hb:t.mr.refs<4294967295):Does c D 74 [.int .i64 r] 22 (D.more r) (.bool true):=fun zs hz R=>by
 have hr:=find64 hz.may R hf
 obtain⟨zs1,⟨d1,hd1,C1⟩,R1,hz1⟩:=(OG (c:=c) hf hb).at hz R
 obtain⟨zs2,⟨d2,hd2,C2⟩,R2,hz2⟩:=(tintFns.touch c (D.up r) r hr).at hz1 R1
 exact⟨zs2,⟨d1+d2,by omega,Nr C1 C2⟩,R2⟩
theorem Py(R:av c zs D)(hz:Wz c zs):av c (zs.set 16 1) D.sus:=by
 refine R.jv hz.may hz.len (k:=16) (by omega) (by omega) rfl rfl rfl rfl rfl rfl rfl rfl (fun j h1 h2 h3=> ?_) R.par
 have:j=10∨j=11∨j=12∨j=13∨j=14∨j=15∨j=17∨j=18:=by omega
 rcases this with rfl|rfl|rfl|rfl|rfl|rfl|rfl|rfl<;>rfl
theorem Km(hf:D.find r=some t):(D.down r).sus.cnt r=t.mr.refs-1:=by
 have:(D.down r).sus.find r=some {t with mr:={t.mr with refs:=t.mr.refs-1}}:=by
  show(D.down r).find r=_
  unfold Wd.down
  rw[find_mark,hf]
  simp[find_at_r hf]
 unfold Wd.cnt
 rw[this]
theorem GG(hf:D.find r=some t)(h0:t.mr.refs≠0)(hp0:0≤D.pending)(hp1:D.pending≤4294900000):Does c D 89 [.int .i64 r] 46 (D.less r) (.bool true):=fun zs hz R=>by
 have hr:=find64 hz.may R hf
 obtain⟨zs1,C1,R1⟩:=zQ hz R hf h0
 have hz1:Wz c zs1:=gY.wz hz ⟨3,Nat.le_refl _,C1⟩
 have R2:=Py R1 hz1
 have hz2:Wz c (zs1.set 16 1):=hz1.set _ (by omega) (by omega)
 have hc:=Km hf
 by_cases h1:t.mr.refs-1=0
 ·obtain⟨zs3,⟨d3,hd3,C3⟩,R3,hz3⟩:=(vD (c:=c) (D:=(D.down r).sus) hr hp0 hp1).at hz2 R2
  rw[h1] at C1
  exact⟨zs3,⟨3+1+d3,by omega,KZ C1 C3⟩,R3⟩
 ·have e:D.less r=(D.down r).sus:=by unfold Wd.less Wd.inter;rw[if_neg (by rw[hc];exact h1)]
  rw[e]
  exact⟨_,⟨3+1,by omega,Nq h1 C1⟩,R2⟩
theorem ld_Hold_no(hr:In64 r)(h:D.aliveB r=false):Does c D 16 [.int .i64 r] 14 D (.bool false):=fun zs hz R=>by
 obtain⟨zs1,⟨d1,hd1,C1⟩,R1,hz1⟩:=(ld_alive (c:=c) (D:=D) hr).at hz R
 rw[h] at C1
 exact⟨zs1,⟨d1,hd1,EX C1⟩,R1⟩
theorem ld_Hold(hf:D.find r=some t)(hd:t.mr.dead=false)(hb:t.mr.refs<4294967295):Does c D 16 [.int .i64 r] 36 (D.more r) (.bool true):=fun zs hz R=>by
 have hr:=find64 hz.may R hf
 obtain⟨zs1,⟨d1,hd1,C1⟩,R1,hz1⟩:=(ld_alive (c:=c) (D:=D) hr).at hz R
 rw[aliveB_some hf,hd] at C1
 obtain⟨zs2,⟨d2,hd2,C2⟩,R2,hz2⟩:=(ld_more (c:=c) hf hb).at hz1 R1
 exact⟨zs2,⟨d1+d2,by omega,Np C1 C2⟩,R2⟩
theorem ld_Let(hf:D.find r=some t)(hd:t.mr.dead=false)(h0:t.mr.refs≠0)(hp0:0≤D.pending)(hp1:D.pending≤4294900000):Does c D 32 [.int .i64 r] 60 (D.less r) (.bool true):=fun zs hz R=>by
 have hr:=find64 hz.may R hf
 obtain⟨zs1,⟨d1,hd1,C1⟩,R1,hz1⟩:=(ld_alive (c:=c) (D:=D) hr).at hz R
 rw[aliveB_some hf,hd] at C1
 obtain⟨zs2,⟨d2,hd2,C2⟩,R2,hz2⟩:=(GG (c:=c) hf h0 hp0 hp1).at hz1 R1
 exact⟨zs2,⟨d1+d2,by omega,lw_Let C1 C2⟩,R2⟩
theorem vE(S:San D)(hf:D.find r=some t)(hd:t.mr.dead=false){i:Nat}(hi:i<t.pt.length)(hx:x=0∨∃u,D.find x=some u):Does c D 71 [.int .i64 r,.int .i64 (i:Int),.int .i64 x] 12 (D.setP r i x) (.int .i64 0):=fun zs hz R=>by
 obtain⟨htl,_⟩:=find_live hf
 have hxb:0≤x∧x≤(c.N:Int):=by
  rcases hx with rfl|⟨u,hu⟩
  ·omega
  ·obtain⟨hul,e⟩:=find_live hu
   have:=R.hlt hul
   omega
 obtain⟨a,ha⟩:=((S.ok t htl).alive hd).field hz.may R.w.symm (S.ok t htl).ql hi
 obtain⟨⟨d,hd,C⟩,R',_⟩:=mE hz R hf hi ha hxb.1 hxb.2
 exact⟨_,⟨d,hd,C⟩,R'⟩
theorem QX(S:San D)(hz:Wz c zs)(R:av c zs D)(hf:D.find r=some t)(hd:t.mr.dead=false){i:Nat}(hi:i<t.pt.length):In64 (nth t.pt i):=by
 obtain⟨htl,_⟩:=find_live hf
 obtain⟨a,ha⟩:=((S.ok t htl).alive hd).field hz.may R.w.symm (S.ok t htl).ql hi
 have:=(qU hz R (find64 hz.may R hf) hf hi ha).2
 unfold In64
 omega
theorem Ox(q:Int)(hf:D.find q=some t)(x:Int):∃m:Mrk,(D.up x).find q=some {t with mr:=m}∧m.dead=t.mr.dead:=by
 unfold Wd.up
 rw[find_mark,hf]
 by_cases e:t.at x=true
 ·exact⟨{t.mr with refs:=t.mr.refs+1},by simp[e],rfl⟩
 ·exact⟨t.mr,by simp[e],rfl⟩
theorem more_find(q:Int)(hf:D.find q=some t)(x:Int):∃m:Mrk,(D.more x).find q=some {t with mr:=m}∧m.dead=t.mr.dead:=by
 obtain⟨m,h1,h2⟩:=Ox q hf x
 obtain⟨k,h3⟩:=touch_mark q h1 x
 exact⟨_,h3,h2⟩
theorem IQ(x:Int):(D.more x).pending=D.pending∧(D.more x).clean=D.clean∧(D.more x).grave=D.grave:=by
 obtain⟨h1,h2,h3,_⟩:=wQ (D:=D.up x) x
 exact⟨h3,h1,h2⟩
theorem GH(h64:In64 y)(hp0:0≤D.pending)(hp1:D.pending≤4294900000)(hz:Wz c zs)(R:av c zs D):
  (¬0<D.cnt y∧D.putY y=D∧∃zs1 d,d≤2∧Run c 33 [.int .i64 y] zs d zs1 (.int .i64 (D.cnt y))∧av c zs1 D)∨
  (0<D.cnt y∧∃zs1 d zs2 d2 b zs3 d3 b2,d+d2+d3≤62∧Run c 33 [.int .i64 y] zs d zs1 (.int .i64 (D.cnt y))∧Run c 88 [.int .i64 y] zs1 d2 zs2 (.bool b)∧Run c 89 [.int .i64 y] zs2 d3 zs3 (.bool b2)∧av c zs3 (D.putY y)):=by
 obtain⟨zs1,⟨d1,hd1,C1⟩,R1,hz1⟩:=(zP (c:=c) (D:=D) h64).at hz R
 by_cases h:0<D.cnt y
 ·right
  cases hf:D.find y with
  |none=>unfold Wd.cnt at h;rw[hf] at h;simp at h
  |some v=>
   obtain⟨zs2,⟨d2,hd2,C2⟩,R2,hz2⟩:=(tintFns.touch c D y h64).at hz1 R1
   obtain⟨k,hk⟩:=touch_mark y hf y
   have hr:v.mr.refs≠0:=by unfold Wd.cnt at h;rw[hf] at h;simp only at h;omega
   have e:=(wQ (D:=D) y).2.2.1
   obtain⟨zs3,⟨d3,hd3,C3⟩,R3,hz3⟩:=(GG (c:=c) hk hr (by rw[e];exact hp0) (by rw[e];exact hp1)).at hz2 R2
   exact⟨h,zs1,d1,zs2,d2,_,zs3,d3,_,by omega,C1,C2,C3,by unfold Wd.putY;rw[if_pos h];exact R3⟩
 ·exact .inl ⟨h,by unfold Wd.putY;rw[if_neg h],zs1,d1,hd1,C1,R1⟩
theorem ld_Put(S:San D)(hf:D.find r=some t)(hd:t.mr.dead=false){i:Nat}(hi:i<t.pt.length)(hx:x=0∨∃u,D.find x=some u∧u.mr.dead=false∧u.mr.refs<4294967295)(hp0:0≤D.pending)(hp1:D.pending≤4294900000):
  Does c D 31 [.int .i64 r,.int .i64 (i:Int),.int .i64 x] 150 (D.put r i x (nth t.pt i)) (.int .i64 0):=fun zs hz R=>by
 have h64:=QX S hz R hf hd hi
 obtain⟨zs1,⟨d1,hd1,C1⟩,R1,hz1⟩:=(ld_alive (c:=c) (D:=D) (find64 hz.may R hf)).at hz R
 rw[aliveB_some hf,hd] at C1
 obtain⟨zs2,⟨d2,hd2,C2⟩,R2,hz2⟩:=(KG (c:=c) S hf hd i).at hz1 R1
 rw[if_pos hi] at C2
 by_cases hx0:x=0
 ·subst hx0
  obtain⟨zs3,⟨d3,hd3,C3⟩,R3,hz3⟩:=(vE (c:=c) (x:=0) S hf hd hi (.inl rfl)).at hz2 R2
  have e:D.putS r i 0=D.setP r i 0:=by unfold Wd.putS;rw[if_pos rfl]
  unfold Wd.put
  rw[e]
  rcases GH (y:=nth t.pt i) h64 (D:=D.setP r i 0) hp0 hp1 hz3 R3 with⟨h0,e2,zs4,d4,hd4,C4,R4⟩|⟨h0,zs4,d4,zs5,d5,b,zs6,d6,b2,hd,C4,C5,C6,R6⟩
  ·rw[e2]
   exact⟨zs4,⟨d1+d2+d3+d4,by omega,CB h0 C1 C2 C3 C4⟩,R4⟩
  ·exact⟨zs6,⟨d1+d2+d3+d4+d5+d6,by omega,Ad h0 C1 C2 C3 C4 C5 C6⟩,R6⟩
 ·obtain⟨u,hu,hud,hub⟩:∃u,D.find x=some u∧u.mr.dead=false∧u.mr.refs<4294967295:=by
   rcases hx with h|h
   ·exact absurd h hx0
   ·exact h
  obtain⟨zs3,⟨d3,hd3,C3⟩,R3,hz3⟩:=(ld_Hold (c:=c) hu hud hub).at hz2 R2
  obtain⟨m,hf1,hm1⟩:=more_find r hf x
  obtain⟨m2,hu1,_⟩:=more_find x hu x
  obtain⟨zs4,⟨d4,hd4,C4⟩,R4,hz4⟩:=(vE (c:=c) (x:=x) (t:={t with mr:=m}) (i:=i) (S.more x) hf1 (hm1.trans hd) hi (.inr ⟨_,hu1⟩)).at hz3 R3
  have e:D.putS r i x=(D.more x).setP r i x:=by unfold Wd.putS;rw[if_neg hx0]
  have ep:=(IQ (D:=D) x).1
  unfold Wd.put
  rw[e]
  rcases GH (y:=nth t.pt i) h64 (D:=(D.more x).setP r i x) (by show 0≤(D.more x).pending;rw[ep];exact hp0) (by show(D.more x).pending≤_;rw[ep];exact hp1) hz4 R4 with⟨h0,e2,zs5,d5,hd5,C5,R5⟩|⟨h0,zs5,d5,zs6,d6,b,zs7,d7,b2,hd,C5,C6,C7,R7⟩
  ·rw[e2]
   exact⟨zs5,⟨d1+d2+d3+d4+d5,by omega,EZ hx0 h0 C1 C2 C3 C4 C5⟩,R5⟩
  ·exact⟨zs7,⟨d1+d2+d3+d4+d5+d6+d7,by omega,Cz hx0 h0 C1 C2 C3 C4 C5 C6 C7⟩,R7⟩
end
section
variable {c:Cf} {D:Wd} {t:Th} {zs:List Int} {x y:Int} {w wr:World} {p:Pl}
structure BornOk (D:Wd) (x y:Int) (N:Nat):Prop where
 san:San D→San (D.mkD x y)
 new:D.mkE x y=0→∃t,(D.mkD x y).find (D.mkR x y)=some t∧t.h=D.mkB∧t.mr=Mrk.new
 fresh:D.mkE x y=0→∀t,t∈D.live→t.h≠D.mkB
 lt:D.mkE x y=0→D.mkB<N
theorem RSt.bornOk(h:RSt w p c (D.mkD x y) wr):BornOk D x y c.N:=by
 have hs:San D→San (D.mkD x y):=fun S=>S.mkD h
 obtain⟨zs,m,hG,hR,_⟩:=h
 have key:D.mkE x y=0→(∃t,(D.mkD x y).find (D.mkR x y)=some t∧t.h=D.mkB∧t.mr=Mrk.new)∧(∀t,t∈D.live→t.h≠D.mkB)∧D.mkB<c.N:=fun h0=>by
  have eR:D.mkR x y=(D.mkB:Int)+1:=by unfold Wd.mkR;rw[if_pos h0]
  have eD:D.mkD x y=D.made D.mkB (D.clean.tail.take (D.mkN x y)) (D.clean.tail.drop (D.mkN x y)) x.toNat y.toNat:=by unfold Wd.mkD;rw[if_pos h0]
  rw[eD] at hR ⊢
  rw[eR]
  generalize D.clean.tail.take (D.mkN x y)=ls at*
  generalize D.clean.tail.drop (D.mkN x y)=cl at*
  have hl:=live_made (D:=D) (b:=D.mkB) (ls:=ls) (cl:=cl) (np:=x.toNat) (nd:=y.toNat)
  have hm:(⟨D.mkB,ints ls,zer x.toNat,zer y.toNat,false,Mrk.new⟩:Th)∈(D.made D.mkB ls cl x.toNat y.toNat).live:=by rw[hl];simp
  have hn:=hR.nodup
  rw[hl,List.map_append,List.nodup_append] at hn
  exact⟨⟨_,hR.findIt hm,rfl,rfl⟩,fun t ht=>hn.2.2 t.h (List.mem_map.2 ⟨t,ht,rfl⟩) D.mkB (by simp),hR.hlt hm⟩
 exact⟨hs,fun h0=>(key h0).1,fun h0=>(key h0).2.1,fun h0=>(key h0).2.2⟩
theorem dye_find(q:Int)(hf:D.find q=some t)(r:Int):∃m:Mrk,(D.dye r).find q=some {t with mr:=m}∧m.dead=t.mr.dead∧m.refs=t.mr.refs:=by
 unfold Wd.dye
 rw[find_mark,hf]
 by_cases e:t.at r=true
 ·exact⟨{t.mr with color:=D.parity,count:=D.parity,shade:=D.parity,shadow:=0},by simp[e],rfl,rfl⟩
 ·exact⟨t.mr,by simp[e],rfl,rfl⟩
theorem BornOk.RY{N:Nat}(B:BornOk D x y N)(S:San D):San (D.born x y):=by
 unfold Wd.born
 split
 ·have S1:San ((D.mkD x y).dye (D.mkR x y)):=(B.san S).mark _ (fun _=>rfl) (fun _=>rfl) (fun _=>rfl)
  exact S1.more _
 ·exact S
set_option maxHeartbeats 2000000 in
theorem GJ(c:Cf)(D:Wd)(x y:Int){wr w:World}{p:Pl}(h:RSt w p c D wr):
  Calls Tryz.prog 30 #[.pointer (some ⟨p.a,0,none⟩),.int .i64 x,.int .i64 y] wr fun e w'=>e=.returned (.tuple #[.int .i64 (D.mkR x y),.int .i64 (D.mkE x y)])∧RSt w p c (D.born x y) w'∧Touch (inG p) wr w'∧BornOk D x y c.N:=by
 have HM:=hid (make_does objFns c D x y h)
 clear h
 by_cases hE:D.mkE x y=0
 ·have hD:D.born x y=((D.mkD x y).dye (D.mkR x y)).more (D.mkR x y):=by unfold Wd.born;rw[if_pos hE]
  have HE:=hid hE
  rw[hE] at HM
  rw[hE,hD]
  clear hE hD
  go_enter Tryz.func30,Tryz.ntmps30
  go_wp2_with fail
  refine HM.out.mono ?_
  rintro e w1 ⟨rfl,h1,hT⟩
  have HBk:=hid h1.bornOk
  have HS1:=hid h1
  have HT1:=hid hT
  obtain⟨t,hf,eh,em⟩:=HBk.out.new HE.out
  have h64:In64 (D.mkR x y):=by
   obtain⟨zs,m,hG,hR,_⟩:=h1
   exact find64 hG.may hR hf
  obtain⟨m,hf2,_,em2⟩:=dye_find (D.mkR x y) hf (D.mkR x y)
  have HDy:=hid ((tintFns.dye c (D.mkD x y) (D.mkR x y) h64).as (vb (show((D.mkD x y).find (D.mkR x y)).isSome=true by rw[hf];rfl)) rfl)
  have HMo:=hid (ld_more (c:=c) hf2 (by show m.refs<_;rw[em2,em];decide))
  clear h1 hT hf hf2
  go_wp2_with fail
  refine(HS1.out.does HDy.out).mono ?_
  rintro e w2 ⟨rfl,h2,hT2⟩
  have HS2:=hid h2
  have HT2:=hid (HT1.out.trans hT2)
  clear h2 hT2
  go_wp2_with fail
  refine(HS2.out.does HMo.out).mono ?_
  rintro e w3 ⟨rfl,h3,hT3⟩
  have HS3:=hid h3
  have HT3:=hid (HT2.out.trans hT3)
  clear h3 hT3
  go_wp2_with fail
  go_ret2
  exact⟨rfl,HS3.out,HT3.out,HBk.out⟩
 ·have hD:D.born x y=D.mkD x y:=by unfold Wd.born Wd.mkD;rw[if_neg hE,if_neg hE]
  have hR:D.mkR x y=0:=by unfold Wd.mkR;rw[if_neg hE]
  have hEb:(D.mkE x y !=0)=true:=by rw[bne_iff_ne];exact hE
  rw[hR] at HM
  rw[hD,hR]
  clear hE hD hR
  go_enter Tryz.func30,Tryz.ntmps30
  go_wp2_with fail
  refine HM.out.mono ?_
  rintro e w1 ⟨rfl,h1,hT⟩
  have HBk:=hid h1.bornOk
  have HS1:=hid h1
  have HT1:=hid hT
  clear h1 hT
  go_wp2_with fail
  go_ret2
  exact⟨rfl,HS1.out,HT1.out,HBk.out⟩
end
theorem San.RU{D:Wd}{r x y:Int}{i:Nat}{t:Th}(S:San D)(hf:D.find r=some t)(hd:t.mr.dead=false):San (D.put r i x y):=by
 have S1:San (D.putS r i x):=by
  unfold Wd.putS
  split
  ·exact S.setP hf i (fun h=>by rw[hd] at h;cases h)
  ·obtain⟨m,h1,h2⟩:=more_find r hf x
   exact(S.more x).setP h1 i (fun h=>by have:m.dead=true:=h;rw[h2,hd] at this;cases this)
 unfold Wd.put Wd.putY
 split
 ·exact(S1.touch y).less y
 ·exact S1
section
variable {D D':Wd} {r x y:Int} {t s u:Th} {hold hold':Nat→Nat} {k N:Nat}
theorem Ro(x:Int):(D.up x).live.map Th.h=D.live.map Th.h:=dS x _
theorem MK(x:Int):(D.bury x).live.map Th.h=D.live.map Th.h:=by
 unfold Wd.bury
 cases hf:D.find x with
 |none=>rfl
 |some t=>
  simp only
  split
  ·rfl
  ·unfold Wd.live
   rw[gI]
   exact dA (g:=fun s=>{s with mr:={s.mr with dead:=true,left:=(t.pt.length:Int),leaves:=(t.lv.length:Int)}}) hf (find_at hf).2.1 rfl
theorem Cs(x:Int):(D.inter x).live.map Th.h=D.live.map Th.h:=by
 unfold Wd.inter
 split
 ·exact MK x
 ·rfl
theorem AC(hf:D.find r=some t)(i:Nat)(x:Int):(D.setP r i x).live.map Th.h=D.live.map Th.h:=dA (g:=fun t=>{t with pt:=t.pt.set i x}) hf (find_at hf).2.1 rfl
theorem EW(x:Int):(D.aC x).live.map Th.h=D.live.map Th.h:=by
 unfold Wd.aC
 split
 ·exact dS x _
 ·rfl
theorem BZ(hf:D.find r=some t)(i:Nat)(x:Int):(D.drain r i x).live.map Th.h=D.live.map Th.h:=by
 have key:∀D2:Wd,D2.live.map Th.h=D.live.map Th.h→((D2.down x).inter x).live.map Th.h=D.live.map Th.h:=fun D2 h=>(Cs x).trans ((dS x _).trans h)
 unfold Wd.drain
 by_cases hc:(D.setP r i 0).cnt x=0
 ·rw[if_pos hc];exact AC hf i 0
 ·rw[if_neg hc]
  refine key _ ?_
  split
  ·rw[EW];exact AC hf i 0
  ·exact AC hf i 0
theorem di.setP(P:di x D)(S:San D)(hf:D.find r=some t)(i:Nat)(z:Int):di x (D.setP r i z):=fun s hs hd hx=>by
 rcases bD (g:=fun t=>{t with pt:=t.pt.set i z}) S.nd hf hs with rfl|⟨h,_⟩
 ·exact P t (find_live hf).1 hd hx
 ·exact P s h hd hx
theorem di.aC(P:di x D)(S:San D)(z:Int):di x (D.aC z):=by
 unfold Wd.aC
 split
 ·exact P.mark S z (fun _=>rfl) (fun _ h=>h)
 ·exact P
theorem di.drain(P:di 0 D)(N:fP hold D)(S:San D)(hf:D.find r=some t){i:Nat}(hi:i<t.pt.length):di 0 (D.drain r i (nth t.pt i)):=by
 have N1:=N.clear S hf hi
 have S1:=S.setP hf i (x:=0) (fun _=>rfl)
 have P1:=P.setP S hf i 0
 generalize nth t.pt i=x at N1
 unfold Wd.drain
 by_cases hc:(D.setP r i 0).cnt x=0
 ·rw[if_pos hc];exact P1
 ·rw[if_neg hc]
  have key:∀D2:Wd,San D2→um hold x D2→di 0 D2→di 0 ((D2.down x).inter x):=fun D2 S2 N2 P2=>(P2.down S2 x).inter (N2.down S2) (S2.down x)
  have K:San (if(D.setP r i 0).counted r i then(D.setP r i 0).aC x else D.setP r i 0)∧um hold x (if(D.setP r i 0).counted r i then(D.setP r i 0).aC x else D.setP r i 0)∧di 0 (if(D.setP r i 0).counted r i then(D.setP r i 0).aC x else D.setP r i 0):=by
   split
   ·refine⟨S1.aC x,?_,P1.aC S1 x⟩
    unfold Wd.aC
    split
    ·exact N1.mark S1 x (fun _=>rfl) (fun _=>rfl)
    ·exact N1
   ·exact⟨S1,N1,P1⟩
  exact key _ K.1 K.2.1 K.2.2
theorem LY(P:di 0 D)(N:fP hold D)(S:San D):di 0 D.step∧∀s,s∈D.live→(∃s',s'∈D.step.live∧s'.h=s.h)∨s.mr.dead=true:=by
 cases hg:D.grave with
 |nil=>rw[show D.step=D by unfold Wd.step;rw[hg]];exact⟨P,fun s hs=>.inl ⟨s,hs,rfl⟩⟩
 |cons q rest=>
  obtain⟨t,htl,e,hf,hd,d,es⟩:=S.head hg
  have hw:=S.w
  rw[es]
  unfold Wd.work
  by_cases ha:D.ahead t.mr.leaves<t.mr.left
  ·have h0:0≤D.ahead t.mr.leaves:=by
    unfold Wd.ahead
    refine Int.mul_nonneg ?_ (by omega)
    split<;>omega
   rw[if_pos ha]
   have hi:(t.mr.left-1).toNat<t.pt.length:=by have:=d.f1;omega
   exact⟨(P.drain N S hf hi).mark (S.drain hf _ _) _ (fun _=>rfl) (fun _ h=>h),fun s hs=>.inl (aQ ((dS _ _).trans (BZ hf _ _)) hs)⟩
  ·rw[if_neg ha]
   by_cases hl:0<t.mr.leaves
   ·rw[if_pos hl]
    have ets:({(D.fM (q:Int) (t.mr.leaves-1).toNat (nth t.lv (t.mr.leaves-1).toNat).toNat).mark (q:Int) (fun m=>{m with leaves:=t.mr.leaves-1}) with pending:=D.pending-1}:Wd).ts=bz (q:Int) (fun s=>{s with lv:=s.lv.set (t.mr.leaves-1).toNat (-1),mr:={s.mr with leaves:=t.mr.leaves-1}}) D.ts:=ji _ _ _ _
    refine⟨fun s hs hds hx=> ?_,fun s hs=>.inl (aQ ?_ hs)⟩
    ·unfold Wd.live at hs
     rw[ets] at hs
     rcases bD (g:=fun s=>{s with lv:=s.lv.set (t.mr.leaves-1).toNat (-1),mr:={s.mr with leaves:=t.mr.leaves-1}}) S.nd hf hs with rfl|⟨h,_⟩
     ·have hds:t.mr.dead=false:=hds
      rw[hd] at hds
      cases hds
     ·exact P s h hds hx
    ·unfold Wd.live
     rw[ets]
     exact dA (g:=fun s=>{s with lv:=s.lv.set (t.mr.leaves-1).toNat (-1),mr:={s.mr with leaves:=t.mr.leaves-1}}) hf (find_at hf).2.1 rfl
   ·rw[if_neg hl]
    have hlive:({({D with grave:=rest}:Wd).gJ (q:Int) t.h with pending:=D.pending-1}:Wd).live=D.live.filter (fun s=>s.h !=t.h):=fD (g:=fun s=>{s with ended:=true}) (fun _=>rfl) S.nd hf
    refine⟨fun s hs hds hx=> ?_,fun s hs=> ?_⟩
    ·rw[hlive] at hs
     exact P s (List.mem_filter.1 hs).1 hds hx
    ·by_cases e2:s.h=t.h
     ·right
      rw[S.same hs htl e2]
      exact hd
     ·exact .inl ⟨s,by rw[hlive];exact List.mem_filter.2 ⟨hs,by simpa using e2⟩,rfl⟩
end
section
variable {c:Cf} {zs zs1 zs2 zs3 zs4 zs5 zs6 zs7 zs8:List Int} {d1 d2 d3 d4 d5 d6 d7 d8:Nat}
set_option maxHeartbeats 1000000 in
theorem Dv{r f n n2:Int}(hn:¬f<n)(C1:Run c 110 [.int .i64 r] zs d1 zs1 (.tuple #[.int .i64 n,.int .i64 n2,.int .i64 0])):Run c 52 [.int .i64 r,.int .i64 f] zs (d1) zs1 (.bool false):=fun p m w hG=>by
 have hle:n≤f:=by omega
 have hnf:¬f<n:=hn
 clear hn
 have HG:=hid hG
 have HC1:=hid C1
 clear hG C1
 go_enter Tryz.func52,Tryz.ntmps52
 have HT0:Hid (Touch (inG p) w w):=hid (Touch.refl _ _)
 go_wp2_with fail
 refine(HC1.out p _ _ HG.out).mono ?_
 rintro e wm1 ⟨rfl,hG,hT⟩
 have HG1:=hid hG
 have HT1:Hid (Touch (inG p) _ wm1):=hid (HT0.out.trans hT)
 clear hG hT
 go_wp2_with fail
 go_ret
 exact⟨rfl,HG1.out,HT1.out⟩
set_option maxHeartbeats 1000000 in
theorem xO{r f n n2 x e e2:Int}(hn:f<n)(C1:Run c 110 [.int .i64 r] zs d1 zs1 (.tuple #[.int .i64 n,.int .i64 n2,.int .i64 0]))(C2:Run c 70 [.int .i64 r,.int .i64 f] zs1 d2 zs2 (.tuple #[.int .i64 x,.int .i64 e]))(C3:Run c 71 [.int .i64 r,.int .i64 f,.int .i64 0] zs2 d3 zs3 (.int .i64 e2))(C4:Run c 111 [.int .i64 x] zs3 d4 zs4 (.tuple #[.int .i64 0,.bool false])):Run c 52 [.int .i64 r,.int .i64 f] zs (d1+d2+d3+d4) zs4 (.bool true):=fun p m w hG=>by
 have hle:¬n≤f:=by omega
 have hnf:f<n:=hn
 clear hn
 have HG:=hid hG
 have HC1:=hid C1
 have HC2:=hid C2
 have HC3:=hid C3
 have HC4:=hid C4
 clear hG C1 C2 C3 C4
 go_enter Tryz.func52,Tryz.ntmps52
 have HT0:Hid (Touch (inG p) w w):=hid (Touch.refl _ _)
 go_wp2_with fail
 refine(HC1.out p _ _ HG.out).mono ?_
 rintro e wm1 ⟨rfl,hG,hT⟩
 have HG1:=hid hG
 have HT1:Hid (Touch (inG p) _ wm1):=hid (HT0.out.trans hT)
 clear hG hT
 go_wp2_with fail
 refine(HC2.out p _ _ HG1.out).mono ?_
 rintro e wm2 ⟨rfl,hG,hT⟩
 have HG2:=hid hG
 have HT2:Hid (Touch (inG p) _ wm2):=hid (HT1.out.trans hT)
 clear hG hT
 go_wp2_with fail
 refine(HC3.out p _ _ HG2.out).mono ?_
 rintro e wm3 ⟨rfl,hG,hT⟩
 have HG3:=hid hG
 have HT3:Hid (Touch (inG p) _ wm3):=hid (HT2.out.trans hT)
 clear hG hT
 go_wp2_with fail
 refine(HC4.out p _ _ HG3.out).mono ?_
 rintro e wm4 ⟨rfl,hG,hT⟩
 have HG4:=hid hG
 have HT4:Hid (Touch (inG p) _ wm4):=hid (HT3.out.trans hT)
 clear hG hT
 go_wp2_with fail
 go_ret
 exact⟨rfl,HG4.out.fO rfl (by dsimp only;omega),HT4.out⟩
set_option maxHeartbeats 1000000 in
theorem xN{r f n n2 x e e2 k:Int}(hn:f<n)(hk:k≠0)(C1:Run c 110 [.int .i64 r] zs d1 zs1 (.tuple #[.int .i64 n,.int .i64 n2,.int .i64 0]))(C2:Run c 70 [.int .i64 r,.int .i64 f] zs1 d2 zs2 (.tuple #[.int .i64 x,.int .i64 e]))(C3:Run c 71 [.int .i64 r,.int .i64 f,.int .i64 0] zs2 d3 zs3 (.int .i64 e2))(C4:Run c 111 [.int .i64 x] zs3 d4 zs4 (.tuple #[.int .i64 k,.bool true])):Run c 52 [.int .i64 r,.int .i64 f] zs (d1+d2+d3+d4) zs4 (.bool true):=fun p m w hG=>by
 have hle:¬n≤f:=by omega
 have hnf:f<n:=hn
 clear hn
 have hkb:(k==0)=false:=by rw[beq_eq_false_iff_ne];exact hk
 clear hk
 have HG:=hid hG
 have HC1:=hid C1
 have HC2:=hid C2
 have HC3:=hid C3
 have HC4:=hid C4
 clear hG C1 C2 C3 C4
 go_enter Tryz.func52,Tryz.ntmps52
 have HT0:Hid (Touch (inG p) w w):=hid (Touch.refl _ _)
 go_wp2_with fail
 refine(HC1.out p _ _ HG.out).mono ?_
 rintro e wm1 ⟨rfl,hG,hT⟩
 have HG1:=hid hG
 have HT1:Hid (Touch (inG p) _ wm1):=hid (HT0.out.trans hT)
 clear hG hT
 go_wp2_with fail
 refine(HC2.out p _ _ HG1.out).mono ?_
 rintro e wm2 ⟨rfl,hG,hT⟩
 have HG2:=hid hG
 have HT2:Hid (Touch (inG p) _ wm2):=hid (HT1.out.trans hT)
 clear hG hT
 go_wp2_with fail
 refine(HC3.out p _ _ HG2.out).mono ?_
 rintro e wm3 ⟨rfl,hG,hT⟩
 have HG3:=hid hG
 have HT3:Hid (Touch (inG p) _ wm3):=hid (HT2.out.trans hT)
 clear hG hT
 go_wp2_with fail
 refine(HC4.out p _ _ HG3.out).mono ?_
 rintro e wm4 ⟨rfl,hG,hT⟩
 have HG4:=hid hG
 have HT4:Hid (Touch (inG p) _ wm4):=hid (HT3.out.trans hT)
 clear hG hT
 go_wp2_with fail
 go_ret
 exact⟨rfl,HG4.out.fO rfl (by dsimp only;omega),HT4.out⟩
set_option maxHeartbeats 1000000 in
theorem xM{r f n n2 x e e2:Int}{b:Bool}(hn:f<n)(C1:Run c 110 [.int .i64 r] zs d1 zs1 (.tuple #[.int .i64 n,.int .i64 n2,.int .i64 0]))(C2:Run c 70 [.int .i64 r,.int .i64 f] zs1 d2 zs2 (.tuple #[.int .i64 x,.int .i64 e]))(C3:Run c 71 [.int .i64 r,.int .i64 f,.int .i64 0] zs2 d3 zs3 (.int .i64 e2))(C4:Run c 111 [.int .i64 x] zs3 d4 zs4 (.tuple #[.int .i64 0,.bool true]))(C5:Run c 17 [.int .i64 x] zs4 d5 zs5 (.bool b)):Run c 52 [.int .i64 r,.int .i64 f] zs (d1+d2+d3+d4+d5) zs5 (.bool true):=fun p m w hG=>by
 have hle:¬n≤f:=by omega
 have hnf:f<n:=hn
 clear hn
 have HG:=hid hG
 have HC1:=hid C1
 have HC2:=hid C2
 have HC3:=hid C3
 have HC4:=hid C4
 have HC5:=hid C5
 clear hG C1 C2 C3 C4 C5
 go_enter Tryz.func52,Tryz.ntmps52
 have HT0:Hid (Touch (inG p) w w):=hid (Touch.refl _ _)
 go_wp2_with fail
 refine(HC1.out p _ _ HG.out).mono ?_
 rintro e wm1 ⟨rfl,hG,hT⟩
 have HG1:=hid hG
 have HT1:Hid (Touch (inG p) _ wm1):=hid (HT0.out.trans hT)
 clear hG hT
 go_wp2_with fail
 refine(HC2.out p _ _ HG1.out).mono ?_
 rintro e wm2 ⟨rfl,hG,hT⟩
 have HG2:=hid hG
 have HT2:Hid (Touch (inG p) _ wm2):=hid (HT1.out.trans hT)
 clear hG hT
 go_wp2_with fail
 refine(HC3.out p _ _ HG2.out).mono ?_
 rintro e wm3 ⟨rfl,hG,hT⟩
 have HG3:=hid hG
 have HT3:Hid (Touch (inG p) _ wm3):=hid (HT2.out.trans hT)
 clear hG hT
 go_wp2_with fail
 refine(HC4.out p _ _ HG3.out).mono ?_
 rintro e wm4 ⟨rfl,hG,hT⟩
 have HG4:=hid hG
 have HT4:Hid (Touch (inG p) _ wm4):=hid (HT3.out.trans hT)
 clear hG hT
 go_wp2_with fail
 refine(HC5.out p _ _ HG4.out).mono ?_
 rintro e wm5 ⟨rfl,hG,hT⟩
 have HG5:=hid hG
 have HT5:Hid (Touch (inG p) _ wm5):=hid (HT4.out.trans hT)
 clear hG hT
 go_wp2_with fail
 go_ret
 exact⟨rfl,HG5.out.fO rfl (by dsimp only;omega),HT5.out⟩
set_option maxHeartbeats 1000000 in
theorem xL{k f v:Int}(hv:v≠3)(C1:Run c 47 [] zs d1 zs1 (.tuple #[.int .i64 k,.int .i64 f]))(C2:Run c 48 [] zs1 d2 zs2 (.int .i64 v)):Run c 12 [] zs (d1+d2) zs2 (.bool false):=fun p m w hG=>by
 have hvb:(v !=3)=true:=by rw[bne_iff_ne];exact hv
 clear hv
 have HG:=hid hG
 have HC1:=hid C1
 have HC2:=hid C2
 clear hG C1 C2
 go_enter Tryz.func12,Tryz.ntmps12
 have HT0:Hid (Touch (inG p) w w):=hid (Touch.refl _ _)
 go_wp2_with fail
 refine(HC1.out p _ _ HG.out).mono ?_
 rintro e wm1 ⟨rfl,hG,hT⟩
 have HG1:=hid hG
 have HT1:Hid (Touch (inG p) _ wm1):=hid (HT0.out.trans hT)
 clear hG hT
 go_wp2_with fail
 refine(HC2.out p _ _ HG1.out).mono ?_
 rintro e wm2 ⟨rfl,hG,hT⟩
 have HG2:=hid hG
 have HT2:Hid (Touch (inG p) _ wm2):=hid (HT1.out.trans hT)
 clear hG hT
 go_wp2_with fail
 go_ret
 exact⟨rfl,HG2.out.fO rfl (by dsimp only;omega),HT2.out⟩
set_option maxHeartbeats 1000000 in
theorem Du{k f:Int}(hk:(c.N:Int)≤k)(C1:Run c 47 [] zs d1 zs1 (.tuple #[.int .i64 k,.int .i64 f]))(C2:Run c 48 [] zs1 d2 zs2 (.int .i64 3)):Run c 12 [] zs (d1+d2) zs2 (.bool false):=fun p m w hG=>by
 have hfc:=bW (c.N:Int) (c.W:Int) (c.R:Int) (c.K:Int)
 have hkn:(c.N:Int)≤k:=hk
 clear hk
 have HG:=hid hG
 have HC1:=hid C1
 have HC2:=hid C2
 clear hG C1 C2
 go_enter Tryz.func12,Tryz.ntmps12
 have HT0:Hid (Touch (inG p) w w):=hid (Touch.refl _ _)
 go_wp2_with fail
 refine(HC1.out p _ _ HG.out).mono ?_
 rintro e wm1 ⟨rfl,hG,hT⟩
 have HG1:=hid hG
 have HT1:Hid (Touch (inG p) _ wm1):=hid (HT0.out.trans hT)
 clear hG hT
 go_wp2_with fail
 refine(HC2.out p _ _ HG1.out).mono ?_
 rintro e wm2 ⟨rfl,hG,hT⟩
 have HG2:=hid hG
 have HT2:Hid (Touch (inG p) _ wm2):=hid (HT1.out.trans hT)
 clear hG hT
 go_wp2_with fail
 refine(cZ p c _ _ HG2.out).mono ?_
 rintro e wm3 ⟨rfl,hb⟩
 have HG3:=hid (HG2.out.later hb)
 have HT3:Hid (Touch (inG p) _ wm3):=hid (HT2.out.trans (Touch.of_below hb))
 clear hb
 go_wp2_with fail
 go_ret
 exact⟨rfl,HG3.out.fO rfl (by dsimp only;omega),HT3.out⟩
set_option maxHeartbeats 1000000 in
theorem Az{k f:Int}{b:Bool}(h0:0≤k)(hk:k<(c.N:Int))(hm:c.May)(C1:Run c 47 [] zs d1 zs1 (.tuple #[.int .i64 k,.int .i64 f]))(C2:Run c 48 [] zs1 d2 zs2 (.int .i64 3))(C3:Run c 49 [.int .i64 (k+1)] zs2 d3 zs3 (.bool false))(C4:Run c 53 [.int .i64 (k+1),.int .i64 0] zs3 d4 zs4 (.bool b)):Run c 12 [] zs (d1+d2+d3+d4) zs4 (.bool b):=fun p m w hG=>by
 have hfc:=bW (c.N:Int) (c.W:Int) (c.R:Int) (c.K:Int)
 have hmn:=hm.n
 have hkn:¬(c.N:Int)≤k:=by omega
 have hw1:IntKind.i64.wrap (k+1)=k+1:=IntWalk.i64_in _ (by omega)
 clear hm hmn
 have HG:=hid hG
 have HC1:=hid C1
 have HC2:=hid C2
 have HC3:=hid C3
 have HC4:=hid C4
 clear hG C1 C2 C3 C4
 go_enter Tryz.func12,Tryz.ntmps12
 have HT0:Hid (Touch (inG p) w w):=hid (Touch.refl _ _)
 go_wp2_with fail
 refine(HC1.out p _ _ HG.out).mono ?_
 rintro e wm1 ⟨rfl,hG,hT⟩
 have HG1:=hid hG
 have HT1:Hid (Touch (inG p) _ wm1):=hid (HT0.out.trans hT)
 clear hG hT
 go_wp2_with fail
 refine(HC2.out p _ _ HG1.out).mono ?_
 rintro e wm2 ⟨rfl,hG,hT⟩
 have HG2:=hid hG
 have HT2:Hid (Touch (inG p) _ wm2):=hid (HT1.out.trans hT)
 clear hG hT
 go_wp2_with fail
 refine(cZ p c _ _ HG2.out).mono ?_
 rintro e wm3 ⟨rfl,hb⟩
 have HG3:=hid (HG2.out.later hb)
 have HT3:Hid (Touch (inG p) _ wm3):=hid (HT2.out.trans (Touch.of_below hb))
 clear hb
 go_wp2_with fail
 refine(HC3.out p _ _ HG3.out).mono ?_
 rintro e wm4 ⟨rfl,hG,hT⟩
 have HG4:=hid hG
 have HT4:Hid (Touch (inG p) _ wm4):=hid (HT3.out.trans hT)
 clear hG hT
 go_wp2_with fail
 refine(HC4.out p _ _ HG4.out).mono ?_
 rintro e wm5 ⟨rfl,hG,hT⟩
 have HG5:=hid hG
 have HT5:Hid (Touch (inG p) _ wm5):=hid (HT4.out.trans hT)
 clear hG hT
 go_wp2_with fail
 go_ret
 exact⟨rfl,HG5.out.fO rfl (by dsimp only;omega),HT5.out⟩
set_option maxHeartbeats 1000000 in
theorem Aw{k f:Int}{b:Bool}(h0:0≤k)(hk:k<(c.N:Int))(hm:c.May)(C1:Run c 47 [] zs d1 zs1 (.tuple #[.int .i64 k,.int .i64 f]))(C2:Run c 48 [] zs1 d2 zs2 (.int .i64 3))(C3:Run c 49 [.int .i64 (k+1)] zs2 d3 zs3 (.bool true))(C4:Run c 50 [.int .i64 (k+1)] zs3 d4 zs4 (.bool true))(C5:Run c 53 [.int .i64 (k+1),.int .i64 0] zs4 d5 zs5 (.bool b)):Run c 12 [] zs (d1+d2+d3+d4+d5) zs5 (.bool b):=fun p m w hG=>by
 have hfc:=bW (c.N:Int) (c.W:Int) (c.R:Int) (c.K:Int)
 have hmn:=hm.n
 have hkn:¬(c.N:Int)≤k:=by omega
 have hw1:IntKind.i64.wrap (k+1)=k+1:=IntWalk.i64_in _ (by omega)
 clear hm hmn
 have HG:=hid hG
 have HC1:=hid C1
 have HC2:=hid C2
 have HC3:=hid C3
 have HC4:=hid C4
 have HC5:=hid C5
 clear hG C1 C2 C3 C4 C5
 go_enter Tryz.func12,Tryz.ntmps12
 have HT0:Hid (Touch (inG p) w w):=hid (Touch.refl _ _)
 go_wp2_with fail
 refine(HC1.out p _ _ HG.out).mono ?_
 rintro e wm1 ⟨rfl,hG,hT⟩
 have HG1:=hid hG
 have HT1:Hid (Touch (inG p) _ wm1):=hid (HT0.out.trans hT)
 clear hG hT
 go_wp2_with fail
 refine(HC2.out p _ _ HG1.out).mono ?_
 rintro e wm2 ⟨rfl,hG,hT⟩
 have HG2:=hid hG
 have HT2:Hid (Touch (inG p) _ wm2):=hid (HT1.out.trans hT)
 clear hG hT
 go_wp2_with fail
 refine(cZ p c _ _ HG2.out).mono ?_
 rintro e wm3 ⟨rfl,hb⟩
 have HG3:=hid (HG2.out.later hb)
 have HT3:Hid (Touch (inG p) _ wm3):=hid (HT2.out.trans (Touch.of_below hb))
 clear hb
 go_wp2_with fail
 refine(HC3.out p _ _ HG3.out).mono ?_
 rintro e wm4 ⟨rfl,hG,hT⟩
 have HG4:=hid hG
 have HT4:Hid (Touch (inG p) _ wm4):=hid (HT3.out.trans hT)
 clear hG hT
 go_wp2_with fail
 refine(HC4.out p _ _ HG4.out).mono ?_
 rintro e wm5 ⟨rfl,hG,hT⟩
 have HG5:=hid hG
 have HT5:Hid (Touch (inG p) _ wm5):=hid (HT4.out.trans hT)
 clear hG hT
 go_wp2_with fail
 refine(HC5.out p _ _ HG5.out).mono ?_
 rintro e wm6 ⟨rfl,hG,hT⟩
 have HG6:=hid hG
 have HT6:Hid (Touch (inG p) _ wm6):=hid (HT5.out.trans hT)
 clear hG hT
 go_wp2_with fail
 go_ret
 exact⟨rfl,HG6.out.fO rfl (by dsimp only;omega),HT6.out⟩
set_option maxHeartbeats 1000000 in
theorem xK{k f:Int}{b:Bool}(h0:0≤k)(hk:k<(c.N:Int))(hm:c.May)(C1:Run c 47 [] zs d1 zs1 (.tuple #[.int .i64 k,.int .i64 f]))(C2:Run c 48 [] zs1 d2 zs2 (.int .i64 3))(C3:Run c 49 [.int .i64 (k+1)] zs2 d3 zs3 (.bool true))(C4:Run c 50 [.int .i64 (k+1)] zs3 d4 zs4 (.bool false))(C5:Run c 51 [.int .i64 (k+1)] zs4 d5 zs5 (.bool true))(C6:Run c 53 [.int .i64 (k+1),.int .i64 0] zs5 d6 zs6 (.bool b)):Run c 12 [] zs (d1+d2+d3+d4+d5+d6) zs6 (.bool b):=fun p m w hG=>by
 have hfc:=bW (c.N:Int) (c.W:Int) (c.R:Int) (c.K:Int)
 have hmn:=hm.n
 have hkn:¬(c.N:Int)≤k:=by omega
 have hw1:IntKind.i64.wrap (k+1)=k+1:=IntWalk.i64_in _ (by omega)
 clear hm hmn
 have HG:=hid hG
 have HC1:=hid C1
 have HC2:=hid C2
 have HC3:=hid C3
 have HC4:=hid C4
 have HC5:=hid C5
 have HC6:=hid C6
 clear hG C1 C2 C3 C4 C5 C6
 go_enter Tryz.func12,Tryz.ntmps12
 have HT0:Hid (Touch (inG p) w w):=hid (Touch.refl _ _)
 go_wp2_with fail
 refine(HC1.out p _ _ HG.out).mono ?_
 rintro e wm1 ⟨rfl,hG,hT⟩
 have HG1:=hid hG
 have HT1:Hid (Touch (inG p) _ wm1):=hid (HT0.out.trans hT)
 clear hG hT
 go_wp2_with fail
 refine(HC2.out p _ _ HG1.out).mono ?_
 rintro e wm2 ⟨rfl,hG,hT⟩
 have HG2:=hid hG
 have HT2:Hid (Touch (inG p) _ wm2):=hid (HT1.out.trans hT)
 clear hG hT
 go_wp2_with fail
 refine(cZ p c _ _ HG2.out).mono ?_
 rintro e wm3 ⟨rfl,hb⟩
 have HG3:=hid (HG2.out.later hb)
 have HT3:Hid (Touch (inG p) _ wm3):=hid (HT2.out.trans (Touch.of_below hb))
 clear hb
 go_wp2_with fail
 refine(HC3.out p _ _ HG3.out).mono ?_
 rintro e wm4 ⟨rfl,hG,hT⟩
 have HG4:=hid hG
 have HT4:Hid (Touch (inG p) _ wm4):=hid (HT3.out.trans hT)
 clear hG hT
 go_wp2_with fail
 refine(HC4.out p _ _ HG4.out).mono ?_
 rintro e wm5 ⟨rfl,hG,hT⟩
 have HG5:=hid hG
 have HT5:Hid (Touch (inG p) _ wm5):=hid (HT4.out.trans hT)
 clear hG hT
 go_wp2_with fail
 refine(HC5.out p _ _ HG5.out).mono ?_
 rintro e wm6 ⟨rfl,hG,hT⟩
 have HG6:=hid hG
 have HT6:Hid (Touch (inG p) _ wm6):=hid (HT5.out.trans hT)
 clear hG hT
 go_wp2_with fail
 refine(HC6.out p _ _ HG6.out).mono ?_
 rintro e wm7 ⟨rfl,hG,hT⟩
 have HG7:=hid hG
 have HT7:Hid (Touch (inG p) _ wm7):=hid (HT6.out.trans hT)
 clear hG hT
 go_wp2_with fail
 go_ret
 exact⟨rfl,HG7.out.fO rfl (by dsimp only;omega),HT7.out⟩
set_option maxHeartbeats 1000000 in
theorem Ay{k f:Int}{b b2:Bool}(h0:0≤k)(hk:k<(c.N:Int))(hm:c.May)(C1:Run c 47 [] zs d1 zs1 (.tuple #[.int .i64 k,.int .i64 f]))(C2:Run c 48 [] zs1 d2 zs2 (.int .i64 3))(C3:Run c 49 [.int .i64 (k+1)] zs2 d3 zs3 (.bool true))(C4:Run c 50 [.int .i64 (k+1)] zs3 d4 zs4 (.bool false))(C5:Run c 51 [.int .i64 (k+1)] zs4 d5 zs5 (.bool false))(C6:Run c 52 [.int .i64 (k+1),.int .i64 f] zs5 d6 zs6 (.bool false))(C7:Run c 54 [.int .i64 (k+1)] zs6 d7 zs7 (.bool b2))(C8:Run c 53 [.int .i64 (k+1),.int .i64 0] zs7 d8 zs8 (.bool b)):Run c 12 [] zs (d1+d2+d3+d4+d5+d6+d7+d8) zs8 (.bool b):=fun p m w hG=>by
 have hfc:=bW (c.N:Int) (c.W:Int) (c.R:Int) (c.K:Int)
 have hmn:=hm.n
 have hkn:¬(c.N:Int)≤k:=by omega
 have hw1:IntKind.i64.wrap (k+1)=k+1:=IntWalk.i64_in _ (by omega)
 clear hm hmn
 have HG:=hid hG
 have HC1:=hid C1
 have HC2:=hid C2
 have HC3:=hid C3
 have HC4:=hid C4
 have HC5:=hid C5
 have HC6:=hid C6
 have HC7:=hid C7
 have HC8:=hid C8
 clear hG C1 C2 C3 C4 C5 C6 C7 C8
 go_enter Tryz.func12,Tryz.ntmps12
 have HT0:Hid (Touch (inG p) w w):=hid (Touch.refl _ _)
 go_wp2_with fail
 refine(HC1.out p _ _ HG.out).mono ?_
 rintro e wm1 ⟨rfl,hG,hT⟩
 have HG1:=hid hG
 have HT1:Hid (Touch (inG p) _ wm1):=hid (HT0.out.trans hT)
 clear hG hT
 go_wp2_with fail
 refine(HC2.out p _ _ HG1.out).mono ?_
 rintro e wm2 ⟨rfl,hG,hT⟩
 have HG2:=hid hG
 have HT2:Hid (Touch (inG p) _ wm2):=hid (HT1.out.trans hT)
 clear hG hT
 go_wp2_with fail
 refine(cZ p c _ _ HG2.out).mono ?_
 rintro e wm3 ⟨rfl,hb⟩
 have HG3:=hid (HG2.out.later hb)
 have HT3:Hid (Touch (inG p) _ wm3):=hid (HT2.out.trans (Touch.of_below hb))
 clear hb
 go_wp2_with fail
 refine(HC3.out p _ _ HG3.out).mono ?_
 rintro e wm4 ⟨rfl,hG,hT⟩
 have HG4:=hid hG
 have HT4:Hid (Touch (inG p) _ wm4):=hid (HT3.out.trans hT)
 clear hG hT
 go_wp2_with fail
 refine(HC4.out p _ _ HG4.out).mono ?_
 rintro e wm5 ⟨rfl,hG,hT⟩
 have HG5:=hid hG
 have HT5:Hid (Touch (inG p) _ wm5):=hid (HT4.out.trans hT)
 clear hG hT
 go_wp2_with fail
 refine(HC5.out p _ _ HG5.out).mono ?_
 rintro e wm6 ⟨rfl,hG,hT⟩
 have HG6:=hid hG
 have HT6:Hid (Touch (inG p) _ wm6):=hid (HT5.out.trans hT)
 clear hG hT
 go_wp2_with fail
 refine(HC6.out p _ _ HG6.out).mono ?_
 rintro e wm7 ⟨rfl,hG,hT⟩
 have HG7:=hid hG
 have HT7:Hid (Touch (inG p) _ wm7):=hid (HT6.out.trans hT)
 clear hG hT
 go_wp2_with fail
 refine(HC7.out p _ _ HG7.out).mono ?_
 rintro e wm8 ⟨rfl,hG,hT⟩
 have HG8:=hid hG
 have HT8:Hid (Touch (inG p) _ wm8):=hid (HT7.out.trans hT)
 clear hG hT
 go_wp2_with fail
 refine(HC8.out p _ _ HG8.out).mono ?_
 rintro e wm9 ⟨rfl,hG,hT⟩
 have HG9:=hid hG
 have HT9:Hid (Touch (inG p) _ wm9):=hid (HT8.out.trans hT)
 clear hG hT
 go_wp2_with fail
 go_ret
 exact⟨rfl,HG9.out.fO rfl (by dsimp only;omega),HT9.out⟩
set_option maxHeartbeats 1000000 in
theorem FC{k f:Int}{b:Bool}(hf0:0≤f)(hf1:f≤4294967295)(h0:0≤k)(hk:k<(c.N:Int))(hm:c.May)(C1:Run c 47 [] zs d1 zs1 (.tuple #[.int .i64 k,.int .i64 f]))(C2:Run c 48 [] zs1 d2 zs2 (.int .i64 3))(C3:Run c 49 [.int .i64 (k+1)] zs2 d3 zs3 (.bool true))(C4:Run c 50 [.int .i64 (k+1)] zs3 d4 zs4 (.bool false))(C5:Run c 51 [.int .i64 (k+1)] zs4 d5 zs5 (.bool false))(C6:Run c 52 [.int .i64 (k+1),.int .i64 f] zs5 d6 zs6 (.bool true))(C7:Run c 53 [.int .i64 k,.int .i64 (f+1)] zs6 d7 zs7 (.bool b)):Run c 12 [] zs (d1+d2+d3+d4+d5+d6+d7) zs7 (.bool b):=fun p m w hG=>by
 have hfc:=bW (c.N:Int) (c.W:Int) (c.R:Int) (c.K:Int)
 have hmn:=hm.n
 have hkn:¬(c.N:Int)≤k:=by omega
 have hw1:IntKind.i64.wrap (k+1)=k+1:=IntWalk.i64_in _ (by omega)
 have hw2:IntKind.i64.wrap (f+1)=f+1:=IntWalk.i64_in _ (by omega)
 clear hm hmn hf0 hf1
 have HG:=hid hG
 have HC1:=hid C1
 have HC2:=hid C2
 have HC3:=hid C3
 have HC4:=hid C4
 have HC5:=hid C5
 have HC6:=hid C6
 have HC7:=hid C7
 clear hG C1 C2 C3 C4 C5 C6 C7
 go_enter Tryz.func12,Tryz.ntmps12
 have HT0:Hid (Touch (inG p) w w):=hid (Touch.refl _ _)
 go_wp2_with fail
 refine(HC1.out p _ _ HG.out).mono ?_
 rintro e wm1 ⟨rfl,hG,hT⟩
 have HG1:=hid hG
 have HT1:Hid (Touch (inG p) _ wm1):=hid (HT0.out.trans hT)
 clear hG hT
 go_wp2_with fail
 refine(HC2.out p _ _ HG1.out).mono ?_
 rintro e wm2 ⟨rfl,hG,hT⟩
 have HG2:=hid hG
 have HT2:Hid (Touch (inG p) _ wm2):=hid (HT1.out.trans hT)
 clear hG hT
 go_wp2_with fail
 refine(cZ p c _ _ HG2.out).mono ?_
 rintro e wm3 ⟨rfl,hb⟩
 have HG3:=hid (HG2.out.later hb)
 have HT3:Hid (Touch (inG p) _ wm3):=hid (HT2.out.trans (Touch.of_below hb))
 clear hb
 go_wp2_with fail
 refine(HC3.out p _ _ HG3.out).mono ?_
 rintro e wm4 ⟨rfl,hG,hT⟩
 have HG4:=hid hG
 have HT4:Hid (Touch (inG p) _ wm4):=hid (HT3.out.trans hT)
 clear hG hT
 go_wp2_with fail
 refine(HC4.out p _ _ HG4.out).mono ?_
 rintro e wm5 ⟨rfl,hG,hT⟩
 have HG5:=hid hG
 have HT5:Hid (Touch (inG p) _ wm5):=hid (HT4.out.trans hT)
 clear hG hT
 go_wp2_with fail
 refine(HC5.out p _ _ HG5.out).mono ?_
 rintro e wm6 ⟨rfl,hG,hT⟩
 have HG6:=hid hG
 have HT6:Hid (Touch (inG p) _ wm6):=hid (HT5.out.trans hT)
 clear hG hT
 go_wp2_with fail
 refine(HC6.out p _ _ HG6.out).mono ?_
 rintro e wm7 ⟨rfl,hG,hT⟩
 have HG7:=hid hG
 have HT7:Hid (Touch (inG p) _ wm7):=hid (HT6.out.trans hT)
 clear hG hT
 go_wp2_with fail
 refine(HC7.out p _ _ HG7.out).mono ?_
 rintro e wm8 ⟨rfl,hG,hT⟩
 have HG8:=hid hG
 have HT8:Hid (Touch (inG p) _ wm8):=hid (HT7.out.trans hT)
 clear hG hT
 go_wp2_with fail
 go_ret
 exact⟨rfl,HG8.out.fO rfl (by dsimp only;omega),HT8.out⟩
end
end Go.Proofs.YtjmifnljckmimaaGreat.Pk
