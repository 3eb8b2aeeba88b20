/-
  Layer 12: package count's functions.
-/
import Derived.Test.YtjmifnljckmimaaGreatObjRdEtc
import Derived.Test.YtjmifnljckmimaaGreatPoolDoEtc
namespace Go.Proofs.YtjmifnljckmimaaGreat.Pk
open Lib (hid)
open Go.RowKit
set_option linter.unusedVariables false
set_option linter.unusedSimpArgs false
set_option maxRecDepth 100000
section
variable {p:Pl} {c:Cf} {s:St} {pool:List Nat} {os:List Ob} {o:Ob} {r:Int} {w:World}
theorem rY(hG:G w p c s)(H:ae c s.zs pool os)(ho:o∈os):Calls Tryz.prog 49 #[.pointer (some ⟨p.a,0,none⟩),.int .i64 ((o.h:Int)+1)] w (GP w p c ⟨s.zs,s.m+1⟩ (.bool true)):=by
 have hA:=H.obs o ho
 have hm:=hG.may
 have hW:=hm.w
 have h:=vR hG ((o.h:Int)+1)
 rw[OT H hm (H.xn hm ho),H.dZ ho,uz hm hA.hlt,show az c (o.h:Int) 0=some (adr c o.h 0) from gL hA.hlt (v:=0) (by omega)] at h
 exact h
theorem Cj(hG:G w p c s)(H:ae c s.zs pool os)(hr:In64 r)(ho:dZ os r=none):Calls Tryz.prog 49 #[.pointer (some ⟨p.a,0,none⟩),.int .i64 r] w (GP w p c ⟨s.zs,s.m+dR (az c (prev r) 0)⟩ (.bool false)):=by
 have h:=vR hG r
 rw[OT H hG.may hr,ho,Nat.one_mul] at h
 exact h
theorem JF(hG:G w p c s)(H:ae c s.zs pool os)(hr:In64 r)(ho:dZ os r=none):Calls Tryz.prog 33 #[.pointer (some ⟨p.a,0,none⟩),.int .i64 r] w (GP w p c ⟨s.zs,s.m+dR (az c (prev r) 0)⟩ (.int .i64 0)):=by
 have HI:=hid (Cj hG H hr ho)
 have HG:=hid hG
 clear hG H hr ho
 go_enter Tryz.func33,Tryz.ntmps33
 have HT0:Hid (Touch (inG p) w w):=hid (Touch.refl _ _)
 go_wp2_with fail
 refine(HI.out).mono ?_
 rintro e wm1 ⟨rfl,hG,hT⟩
 have HG1:=hid hG
 have HT1:Hid (Touch (inG p) _ wm1):=hid (HT0.out.trans hT)
 clear hG hT
 go_wp2_with fail
 go_ret
 exact⟨rfl,HG1.out,HT1.out⟩
theorem GU(hG:G w p c s)(H:ae c s.zs pool os)(ho:o∈os):Calls Tryz.prog 33 #[.pointer (some ⟨p.a,0,none⟩),.int .i64 ((o.h:Int)+1)] w (GP w p c ⟨s.zs,s.m+2⟩ (.int .i64 (nth s.zs (adr c o.h 3)))):=by
 have HI:=hid (rY hG H ho)
 have HG:=hid hG
 have hA:=H.obs o ho
 have hW:=hG.may.w
 have HB:=hid hA.hlt
 have HV:Hid (3<c.W):=hid (by omega)
 have hwf:=hG.wz.wf (adr c o.h 3)
 have e1:=bW hG.may hA.hlt
 have HY:Hid (nth s.zs (adr c o.h 3)=nth s.zs (adr c o.h 3)):=hid rfl
 generalize hy:nth s.zs (adr c o.h 3)=y at*
 have HY2:=hid hy
 have hwr:IntKind.i64.wrap y=y:=IntWalk.i64_in _ (by omega)
 clear hG H ho hA hW HY hy hwf
 go_enter Tryz.func33,Tryz.ntmps33
 have HT0:Hid (Touch (inG p) w w):=hid (Touch.refl _ _)
 go_wp2_with fail
 refine(HI.out).mono ?_
 rintro e wm1 ⟨rfl,hG,hT⟩
 have HG1:=hid hG
 have HT1:Hid (Touch (inG p) _ wm1):=hid (HT0.out.trans hT)
 clear hG hT
 go_wp2_with fail
 refine(fA p c _ o.h 3 _ _ y _ HG1.out HB.out HV.out rfl rfl HY2.out).mono ?_
 rintro e wm2 ⟨rfl,hG,hT⟩
 have HG2:=hid hG
 have HT2:Hid (Touch (inG p) _ wm2):=hid (HT1.out.trans hT)
 clear hG hT
 go_wp2_with fail
 go_ret
 exact⟨rfl,HG2.out,HT2.out⟩
theorem zg(b:Int)(hG:G w p c s)(H:ae c s.zs pool os)(hr:In64 r)(ho:dZ os r=none):Calls Tryz.prog 133 #[.pointer (some ⟨p.a,0,none⟩),.int .i64 r,.int .i64 b] w (GP w p c ⟨s.zs,s.m+dR (az c (prev r) 0)⟩ (.tuple #[.int .i64 0,.bool false])):=by
 have HI:=hid (Cj hG H hr ho)
 have HG:=hid hG
 clear hG H hr ho
 go_enter Tryz.func133,Tryz.ntmps133
 have HT0:Hid (Touch (inG p) w w):=hid (Touch.refl _ _)
 go_wp2_with fail
 refine(HI.out).mono ?_
 rintro e wm1 ⟨rfl,hG,hT⟩
 have HG1:=hid hG
 have HT1:Hid (Touch (inG p) _ wm1):=hid (HT0.out.trans hT)
 clear hG hT
 go_wp2_with fail
 go_ret2
 exact⟨rfl,HG1.out,HT1.out⟩
theorem wW(b:Int)(hG:G w p c s)(H:ae c s.zs pool os)(ho:o∈os)(hb0: -1≤b)(hb1:b≤1)(hn:nth s.zs (adr c o.h 3)+b<0∨4294967295<nth s.zs (adr c o.h 3)+b):Calls Tryz.prog 133 #[.pointer (some ⟨p.a,0,none⟩),.int .i64 ((o.h:Int)+1),.int .i64 b] w (GP w p c ⟨s.zs,s.m+2⟩ (.tuple #[.int .i64 0,.bool false])):=by
 have HI:=hid (rY hG H ho)
 have HG:=hid hG
 have hA:=H.obs o ho
 have hW:=hG.may.w
 have HB:=hid hA.hlt
 have HV:Hid (3<c.W):=hid (by omega)
 have hwf:=hG.wz.wf (adr c o.h 3)
 have e1:=bW hG.may hA.hlt
 generalize hy:nth s.zs (adr c o.h 3)=y at*
 have HY2:=hid hy
 have hwr:IntKind.i64.wrap y=y:=IntWalk.i64_in _ (by omega)
 have hwr2:IntKind.i64.wrap (y+b)=y+b:=IntWalk.i64_in _ (by omega)
 clear hG H ho hA hW hy
 by_cases h0:y+b<0
 ·clear hwf hn hb0 hb1
  go_enter Tryz.func133,Tryz.ntmps133
  have HT0:Hid (Touch (inG p) w w):=hid (Touch.refl _ _)
  go_wp2_with fail
  refine(HI.out).mono ?_
  rintro e wm1 ⟨rfl,hG,hT⟩
  have HG1:=hid hG
  have HT1:Hid (Touch (inG p) _ wm1):=hid (HT0.out.trans hT)
  clear hG hT
  go_wp2_with fail
  refine(fA p c _ o.h 3 _ _ y _ HG1.out HB.out HV.out rfl rfl HY2.out).mono ?_
  rintro e wm2 ⟨rfl,hG,hT⟩
  have HG2:=hid hG
  have HT2:Hid (Touch (inG p) _ wm2):=hid (HT1.out.trans hT)
  clear hG hT
  go_wp2_with fail
  go_ret2
  exact⟨rfl,HG2.out,HT2.out⟩
 ·have h1:4294967295<y+b:=by omega
  clear hwf hn hb0 hb1
  go_enter Tryz.func133,Tryz.ntmps133
  have HT0:Hid (Touch (inG p) w w):=hid (Touch.refl _ _)
  go_wp2_with fail
  refine(HI.out).mono ?_
  rintro e wm1 ⟨rfl,hG,hT⟩
  have HG1:=hid hG
  have HT1:Hid (Touch (inG p) _ wm1):=hid (HT0.out.trans hT)
  clear hG hT
  go_wp2_with fail
  refine(fA p c _ o.h 3 _ _ y _ HG1.out HB.out HV.out rfl rfl HY2.out).mono ?_
  rintro e wm2 ⟨rfl,hG,hT⟩
  have HG2:=hid hG
  have HT2:Hid (Touch (inG p) _ wm2):=hid (HT1.out.trans hT)
  clear hG hT
  go_wp2_with fail
  go_ret2
  exact⟨rfl,HG2.out,HT2.out⟩
theorem pE(b n:Int)(hG:G w p c s)(H:ae c s.zs pool os)(ho:o∈os)(hb0: -1≤b)(hb1:b≤1)(hn:nth s.zs (adr c o.h 3)+b=n)(hn0:0≤n)(hn1:n≤4294967295):Calls Tryz.prog 133 #[.pointer (some ⟨p.a,0,none⟩),.int .i64 ((o.h:Int)+1),.int .i64 b] w (GP w p c ⟨s.zs.set (adr c o.h 3) n,s.m+3⟩ (.tuple #[.int .i64 n,.bool true])):=by
 have HI:=hid (rY hG H ho)
 have HG:=hid hG
 have hA:=H.obs o ho
 have hW:=hG.may.w
 have HB:=hid hA.hlt
 have HV:Hid (3<c.W):=hid (by omega)
 have hwf:=hG.wz.wf (adr c o.h 3)
 have e1:=bW hG.may hA.hlt
 generalize hy:nth s.zs (adr c o.h 3)=y at*
 have HY2:=hid hy
 have hwr:IntKind.i64.wrap y=y:=IntWalk.i64_in _ (by omega)
 have hwr2:IntKind.i64.wrap (y+b)=n:=by rw[hn];exact IntWalk.i64_in _ (by omega)
 have hwr3:IntKind.u32.wrap n=n:=by rw[IntKind.wrap_u32];omega
 have HN0:=hid hn0
 have HN1:=hid hn1
 have g0:¬n<0:=by omega
 have g1:¬4294967295<n:=by omega
 clear hG H ho hA hW hy hwf hn hn0 hn1 hb0 hb1
 go_enter Tryz.func133,Tryz.ntmps133
 have HT0:Hid (Touch (inG p) w w):=hid (Touch.refl _ _)
 go_wp2_with fail
 refine(HI.out).mono ?_
 rintro e wm1 ⟨rfl,hG,hT⟩
 have HG1:=hid hG
 have HT1:Hid (Touch (inG p) _ wm1):=hid (HT0.out.trans hT)
 clear hG hT
 go_wp2_with fail
 refine(fA p c _ o.h 3 _ _ y _ HG1.out HB.out HV.out rfl rfl HY2.out).mono ?_
 rintro e wm2 ⟨rfl,hG,hT⟩
 have HG2:=hid hG
 have HT2:Hid (Touch (inG p) _ wm2):=hid (HT1.out.trans hT)
 clear hG hT
 go_wp2_with fail
 refine(aH p c _ o.h 3 _ _ n _ HG2.out HB.out HV.out rfl rfl HN0.out HN1.out).mono ?_
 rintro e wm3 ⟨rfl,hG,hT⟩
 have HG3:=hid hG
 have HT3:Hid (Touch (inG p) _ wm3):=hid (HT2.out.trans hT)
 clear hG hT
 go_wp2_with fail
 go_ret2
 exact⟨rfl,HG3.out,HT3.out⟩
theorem Qp{s':St}{v:Value}(h:Calls Tryz.prog 133 #[.pointer (some ⟨p.a,0,none⟩),.int .i64 r,.int .i64 1] w (GP w p c s' v))(hv:∃a b,v=.tuple #[a,b]):Calls Tryz.prog 72 #[.pointer (some ⟨p.a,0,none⟩),.int .i64 r] w (GP w p c s' v):=by
 obtain⟨a,b,rfl⟩:=hv
 have H:=hid h
 clear h
 go_enter Tryz.func72,Tryz.ntmps72
 go_wp2_with fail
 refine H.out.mono ?_
 rintro e w1 ⟨rfl,hG,hT⟩
 have HG1:=hid hG
 have HT1:=hid hT
 clear hG hT
 go_wp2_with fail
 go_ret2
 exact⟨rfl,HG1.out,HT1.out⟩
theorem zh{s':St}{v:Value}(h:Calls Tryz.prog 133 #[.pointer (some ⟨p.a,0,none⟩),.int .i64 r,.int .i64 (-1)] w (GP w p c s' v))(hv:∃a b,v=.tuple #[a,b]):Calls Tryz.prog 111 #[.pointer (some ⟨p.a,0,none⟩),.int .i64 r] w (GP w p c s' v):=by
 obtain⟨a,b,rfl⟩:=hv
 have H:=hid h
 clear h
 go_enter Tryz.func111,Tryz.ntmps111
 go_wp2_with fail
 refine H.out.mono ?_
 rintro e w1 ⟨rfl,hG,hT⟩
 have HG1:=hid hG
 have HT1:=hid hT
 clear hG hT
 go_wp2_with fail
 go_ret2
 exact⟨rfl,HG1.out,HT1.out⟩
end
theorem countFns:Jj where
 up_yes:=fun c zs pool os o hz H ho hk=>⟨3,by omega,fun p m w hG=>Qp (pE 1 _ hG H ho (by omega) (by omega) rfl (by have:=(hz.wf (adr c o.h 3)).1;show 0≤nth zs _+1;omega) (by show nth zs _+1≤_;omega)) ⟨_,_,rfl⟩⟩
 down_zero:=fun c zs pool os o hz H ho hk=>⟨2,by omega,fun p m w hG=>zh (wW (-1) hG H ho (by omega) (by omega) (.inl (by show nth zs _+(-1)<0;omega))) ⟨_,_,rfl⟩⟩
 down_no:=fun c zs pool os r hz H hr ho=>⟨dR (az c (prev r) 0),by have:=oF (az c (prev r) 0);omega,fun p m w hG=>zh (zg (-1) hG H hr ho) ⟨_,_,rfl⟩⟩
end Go.Proofs.YtjmifnljckmimaaGreat.Pk
