/-
  Layer 12: package count's functions.
-/
import Derived.Test.YtbfdimibehkbjaaGreatObjRdEtc
import Derived.Test.YtbfdimibehkbjaaGreatPoolDoEtc
namespace Go.Proofs.YtbfdimibehkbjaaGreat.Pk
open Lib (hid)
open Go.RowKit
set_option linter.unusedVariables false
set_option linter.unusedSimpArgs false
set_option maxRecDepth 100000
section
variable {p:Pl} {c:Cf} {s:St} {pool:List Nat} {os:List Ob} {o:Ob} {r:Int} {w:World}
theorem zh(hG:G w p c s)(H:ah c s.zs pool os)(ho:o∈os):Calls Tryz.prog 31 #[.pointer (some ⟨p.a,0,none⟩),.int .i64 ((o.h:Int)+1)] w (GP w p c ⟨s.zs,s.m+1⟩ (.bool true)):=by
 have hA:=H.bU o ho
 have hm:=hG.may
 have hW:=hm.w
 have h:=zg hG ((o.h:Int)+1)
 rw[PT H hm (H.vw hm ho),H.fC ho,vK hm hA.hlt,show aF c (o.h:Int) 0=some (adr c o.h 0) from iq hA.hlt (v:=0) (by omega)] at h
 exact h
theorem KM(hG:G w p c s)(H:ah c s.zs pool os)(hr:In64 r)(ho:fC os r=none):Calls Tryz.prog 31 #[.pointer (some ⟨p.a,0,none⟩),.int .i64 r] w (GP w p c ⟨s.zs,s.m+fe (aF c (prev r) 0)⟩ (.bool false)):=by
 have h:=zg hG r
 rw[PT H hG.may hr,ho,Nat.one_mul] at h
 exact h
theorem JM(hG:G w p c s)(H:ah c s.zs pool os)(hr:In64 r)(ho:fC os r=none):Calls Tryz.prog 81 #[.pointer (some ⟨p.a,0,none⟩),.int .i64 r] w (GP w p c ⟨s.zs,s.m+fe (aF c (prev r) 0)⟩ (.int .i64 0)):=by
 have HI:=hid (KM hG H hr ho)
 have HG:=hid hG
 clear hG H hr ho
 go_enter Tryz.func81,Tryz.ntmps81
 have HT0:Hid (Touch (inG p) w w):=hid (Touch.refl _ _)
 go_wp2_with fail
 refine(HI.out).mono ?_
 rintro e wm1 ⟨rfl,hG,hT⟩
 have HG1:=hid hG
 have HT1:Hid (Touch (inG p) _ wm1):=hid (HT0.out.trans hT)
 clear hG hT
 go_wp2_with fail
 go_ret
 exact⟨rfl,HG1.out,HT1.out⟩
theorem GY(hG:G w p c s)(H:ah c s.zs pool os)(ho:o∈os):Calls Tryz.prog 81 #[.pointer (some ⟨p.a,0,none⟩),.int .i64 ((o.h:Int)+1)] w (GP w p c ⟨s.zs,s.m+2⟩ (.int .i64 (nth s.zs (adr c o.h 3)))):=by
 have HI:=hid (zh hG H ho)
 have HG:=hid hG
 have hA:=H.bU o ho
 have hW:=hG.may.w
 have HB:=hid hA.hlt
 have HV:Hid (3<c.W):=hid (by omega)
 have hwf:=hG.wz.wf (adr c o.h 3)
 have e1:=dG hG.may hA.hlt
 have HY:Hid (nth s.zs (adr c o.h 3)=nth s.zs (adr c o.h 3)):=hid rfl
 generalize hy:nth s.zs (adr c o.h 3)=y at*
 have HY2:=hid hy
 have hwr:IntKind.i64.wrap y=y:=IntWalk.i64_in _ (by omega)
 clear hG H ho hA hW HY hy hwf
 go_enter Tryz.func81,Tryz.ntmps81
 have HT0:Hid (Touch (inG p) w w):=hid (Touch.refl _ _)
 go_wp2_with fail
 refine(HI.out).mono ?_
 rintro e wm1 ⟨rfl,hG,hT⟩
 have HG1:=hid hG
 have HT1:Hid (Touch (inG p) _ wm1):=hid (HT0.out.trans hT)
 clear hG hT
 go_wp2_with fail
 refine(wordW p c _ o.h 3 _ _ y _ HG1.out HB.out HV.out rfl rfl HY2.out).mono ?_
 rintro e wm2 ⟨rfl,hG,hT⟩
 have HG2:=hid hG
 have HT2:Hid (Touch (inG p) _ wm2):=hid (HT1.out.trans hT)
 clear hG hT
 go_wp2_with fail
 go_ret
 exact⟨rfl,HG2.out,HT2.out⟩
theorem qi(b n:Int)(hG:G w p c s)(H:ah c s.zs pool os)(ho:o∈os)(hb0: -1≤b)(hb1:b≤1)(hn:nth s.zs (adr c o.h 3)+b=n)(hn0:0≤n)(hn1:n≤4294967295):Calls Tryz.prog 136 #[.pointer (some ⟨p.a,0,none⟩),.int .i64 ((o.h:Int)+1),.int .i64 b] w (GP w p c ⟨s.zs.set (adr c o.h 3) n,s.m+3⟩ (.tuple #[.int .i64 n,.bool true])):=by
 have HI:=hid (zh hG H ho)
 have HG:=hid hG
 have hA:=H.bU o ho
 have hW:=hG.may.w
 have HB:=hid hA.hlt
 have HV:Hid (3<c.W):=hid (by omega)
 have hwf:=hG.wz.wf (adr c o.h 3)
 have e1:=dG hG.may hA.hlt
 generalize hy:nth s.zs (adr c o.h 3)=y at*
 have HY2:=hid hy
 have hwr:IntKind.i64.wrap y=y:=IntWalk.i64_in _ (by omega)
 have hwr2:IntKind.i64.wrap (y+b)=n:=by rw[hn];exact IntWalk.i64_in _ (by omega)
 have hwr3:IntKind.u32.wrap n=n:=by rw[IntKind.wrap_u32];omega
 have HN0:=hid hn0
 have HN1:=hid hn1
 have g0:¬n<0:=by omega
 have g1:¬4294967295<n:=by omega
 clear hG H ho hA hW hy hwf hn hn0 hn1 hb0 hb1
 go_enter Tryz.func136,Tryz.ntmps136
 have HT0:Hid (Touch (inG p) w w):=hid (Touch.refl _ _)
 go_wp2_with fail
 refine(HI.out).mono ?_
 rintro e wm1 ⟨rfl,hG,hT⟩
 have HG1:=hid hG
 have HT1:Hid (Touch (inG p) _ wm1):=hid (HT0.out.trans hT)
 clear hG hT
 go_wp2_with fail
 refine(wordW p c _ o.h 3 _ _ y _ HG1.out HB.out HV.out rfl rfl HY2.out).mono ?_
 rintro e wm2 ⟨rfl,hG,hT⟩
 have HG2:=hid hG
 have HT2:Hid (Touch (inG p) _ wm2):=hid (HT1.out.trans hT)
 clear hG hT
 go_wp2_with fail
 refine(aJ p c _ o.h 3 _ _ n _ HG2.out HB.out HV.out rfl rfl HN0.out HN1.out).mono ?_
 rintro e wm3 ⟨rfl,hG,hT⟩
 have HG3:=hid hG
 have HT3:Hid (Touch (inG p) _ wm3):=hid (HT2.out.trans hT)
 clear hG hT
 go_wp2_with fail
 go_ret2
 exact⟨rfl,HG3.out,HT3.out⟩
theorem Qa{s':St}{v:Value}(h:Calls Tryz.prog 136 #[.pointer (some ⟨p.a,0,none⟩),.int .i64 r,.int .i64 1] w (GP w p c s' v))(hv:∃a b,v=.tuple #[a,b]):Calls Tryz.prog 78 #[.pointer (some ⟨p.a,0,none⟩),.int .i64 r] w (GP w p c s' v):=by
 obtain⟨a,b,rfl⟩:=hv
 have H:=hid h
 clear h
 go_enter Tryz.func78,Tryz.ntmps78
 go_wp2_with fail
 refine H.out.mono ?_
 rintro e w1 ⟨rfl,hG,hT⟩
 have HG1:=hid hG
 have HT1:=hid hT
 clear hG hT
 go_wp2_with fail
 go_ret2
 exact⟨rfl,HG1.out,HT1.out⟩
theorem Mh{s':St}{v:Value}(h:Calls Tryz.prog 136 #[.pointer (some ⟨p.a,0,none⟩),.int .i64 r,.int .i64 (-1)] w (GP w p c s' v))(hv:∃a b,v=.tuple #[a,b]):Calls Tryz.prog 148 #[.pointer (some ⟨p.a,0,none⟩),.int .i64 r] w (GP w p c s' v):=by
 obtain⟨a,b,rfl⟩:=hv
 have H:=hid h
 clear h
 go_enter Tryz.func148,Tryz.ntmps148
 go_wp2_with fail
 refine H.out.mono ?_
 rintro e w1 ⟨rfl,hG,hT⟩
 have HG1:=hid hG
 have HT1:=hid hT
 clear hG hT
 go_wp2_with fail
 go_ret2
 exact⟨rfl,HG1.out,HT1.out⟩
end
theorem JL:Jk where
 up_yes:=fun c zs pool os o hz H ho hk=>⟨3,by omega,fun p m w hG=>Qa (qi 1 _ hG H ho (by omega) (by omega) rfl (by have:=(hz.wf (adr c o.h 3)).1;show 0≤nth zs _+1;omega) (by show nth zs _+1≤_;omega)) ⟨_,_,rfl⟩⟩
end Go.Proofs.YtbfdimibehkbjaaGreat.Pk
