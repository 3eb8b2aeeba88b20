/-
  Texts laid together: TintFn4, TintFns, GravRep, GravRep2.
-/
import Derived.Test.YtjmifnljckmimaaGreatTintFnEtc
namespace Go.Proofs.YtjmifnljckmimaaGreat.Pk
open Lib (hid)
open Go.RowKit
set_option linter.unusedVariables false
set_option linter.unusedSimpArgs false
set_option maxRecDepth 100000
section
variable {p:Pl} {c:Cf} {s:St} {pool:List Nat} {os:List Ob} {o:Ob} {r:Int} {w:World}
theorem ym(hG:G w p c s)(hph:nth s.zs 11=0):Calls Tryz.prog 88 #[.pointer (some ⟨p.a,0,none⟩),.int .i64 r] w (GP w p c ⟨s.zs,s.m+1⟩ (.bool false)):=by
 have HG:=hid hG
 have HF:=hid hph
 clear hG hph
 go_enter Tryz.func88,Tryz.ntmps88
 have HT0:Hid (Touch (inG p) w w):=hid (Touch.refl _ _)
 go_wp2_with fail
 refine(bQ HG.out _ HF.out).mono ?_
 rintro e wm1 ⟨rfl,hG,hT⟩
 have HG1:=hid hG
 have HT1:Hid (Touch (inG p) _ wm1):=hid (HT0.out.trans hT)
 clear hG hT
 go_wp2_with fail
 go_ret
 exact⟨rfl,HG1.out,HT1.out⟩
theorem En(ph:Int)(hph:nth s.zs 11=ph)(hp0:¬ph=0)(P:Int)(hP:nth s.zs 10=P)(hG:G w p c s)(H:ah c s.zs pool os)(hr:In64 r)(ho:dJ os r=none):Calls Tryz.prog 88 #[.pointer (some ⟨p.a,0,none⟩),.int .i64 r] w (GP w p c ⟨s.zs,s.m+(2+dF (aB c (prev r) 0))⟩ (.bool false)):=by
 have hmf:∀(fn:Fn) (first cap:Array Value) (w:World),(Instr.makeFunc fn first cap).run Tryz.prog w=.ok (.func fn first cap) w:=fun _ _ _ _=>rfl
 have HC:=hid (fun(w':World) (m:Nat) (V:Value) (hG':G w' p c ⟨s.zs,m⟩)=>zw V hG' H hr ho)
 have HG:=hid hG
 have HF:=hid hph
 have hpb:=neq_b hp0
 have HP:=hid hP
 clear hP hG H hr ho hph hp0
 go_enter Tryz.func88,Tryz.ntmps88
 have HT0:Hid (Touch (inG p) w w):=hid (Touch.refl _ _)
 go_wp2_with fail
 refine(bQ HG.out _ HF.out).mono ?_
 rintro e wm1 ⟨rfl,hG,hT⟩
 have HG1:=hid hG
 have HT1:Hid (Touch (inG p) _ wm1):=hid (HT0.out.trans hT)
 clear hG hT
 go_wp2_with fail
 refine(aZ HG1.out P HP.out).mono ?_
 rintro e wm2 ⟨rfl,hG,hT⟩
 have HG2:=hid hG
 have HT2:Hid (Touch (inG p) _ wm2):=hid (HT1.out.trans hT)
 clear hG hT
 have HGa:=hid (HG2.out.alloc (.cells #[.int .i64 P] 3))
 have HTa:=hid (HT2.out.alloc (.cells #[.int .i64 P] 3))
 go_wp2_with fail
 refine(HC.out _ _ _ HGa.out).mono ?_
 rintro e v2 ⟨rfl,hG,hT⟩
 have HG2:=hid hG
 have HT2:=hid (HTa.out.trans hT)
 clear hG hT
 go_wp2_with fail
 go_ret
 exact⟨rfl,HG2.out.fO rfl (by show s.m+1+1+_=_;simp only[Nat.add_assoc];omega),HT2.out⟩
theorem yl(ph:Int)(hph:nth s.zs 11=ph)(hp0:¬ph=0)(P:Int)(hP:nth s.zs 10=P)(hG:G w p c s)(H:ah c s.zs pool os)(ho:o∈os)(x:Int)(hx:nth s.zs (adr c o.h 0)=x)(hd:uD x=1):Calls Tryz.prog 88 #[.pointer (some ⟨p.a,0,none⟩),.int .i64 ((o.h:Int)+1)] w (GP w p c ⟨s.zs,s.m+4⟩ (.bool false)):=by
 have hmf:∀(fn:Fn) (first cap:Array Value) (w:World),(Instr.makeFunc fn first cap).run Tryz.prog w=.ok (.func fn first cap) w:=fun _ _ _ _=>rfl
 have HC:=hid (fun(w':World) (q m:Nat) (hG':G w' p c ⟨s.zs,m⟩) (hq:Blk w' q #[.int .i64 P] 3) (hqo:¬jf p q)=>Hm 157 Tryz.call157 q P hG' H ho x hx hq hqo (fun w'' b hq' hne hb'=>xX _ _ _ _ _ _ _ _ _ w'' hq' hne hb' hd))
 have HG:=hid hG
 have HF:=hid hph
 have hpb:=neq_b hp0
 have HP:=hid hP
 clear hP hG H ho hx hph hp0 hd
 go_enter Tryz.func88,Tryz.ntmps88
 have HT0:Hid (Touch (inG p) w w):=hid (Touch.refl _ _)
 go_wp2_with fail
 refine(bQ HG.out _ HF.out).mono ?_
 rintro e wm1 ⟨rfl,hG,hT⟩
 have HG1:=hid hG
 have HT1:Hid (Touch (inG p) _ wm1):=hid (HT0.out.trans hT)
 clear hG hT
 go_wp2_with fail
 refine(aZ HG1.out P HP.out).mono ?_
 rintro e wm2 ⟨rfl,hG,hT⟩
 have HG2:=hid hG
 have HT2:Hid (Touch (inG p) _ wm2):=hid (HT1.out.trans hT)
 clear hG hT
 have HGa:=hid (HG2.out.alloc (.cells #[.int .i64 P] 3))
 have HTa:=hid (HT2.out.alloc (.cells #[.int .i64 P] 3))
 have HQa:=hid (Blk.new wm2 #[.int .i64 P] 3)
 have HQo:=hid HG2.out.nP
 go_wp2_with fail
 refine(HC.out _ _ _ HGa.out HQa.out HQo.out).mono ?_
 rintro e w2 ⟨rfl,hG,hT⟩
 have HG2:=hid hG
 have HT2:=hid (HTa.out.trans hT)
 clear hG hT
 go_wp2_with fail
 go_ret
 exact⟨rfl,HG2.out,HT2.out⟩
theorem wU(ph:Int)(hph:nth s.zs 11=ph)(hp0:¬ph=0)(P:Int)(hP:nth s.zs 10=P)(hG:G w p c s)(H:ah c s.zs pool os)(ho:o∈os)(x:Int)(hx:nth s.zs (adr c o.h 0)=x)(hd:uD x=0)(hc:uC x=P):Calls Tryz.prog 88 #[.pointer (some ⟨p.a,0,none⟩),.int .i64 ((o.h:Int)+1)] w (GP w p c ⟨s.zs,s.m+4⟩ (.bool false)):=by
 have hmf:∀(fn:Fn) (first cap:Array Value) (w:World),(Instr.makeFunc fn first cap).run Tryz.prog w=.ok (.func fn first cap) w:=fun _ _ _ _=>rfl
 have HC:=hid (fun(w':World) (q m:Nat) (hG':G w' p c ⟨s.zs,m⟩) (hq:Blk w' q #[.int .i64 P] 3) (hqo:¬jf p q)=>Hm 157 Tryz.call157 q P hG' H ho x hx hq hqo (fun w'' b hq' hne hb'=>wO _ _ _ _ _ _ _ _ _ w'' hq' hne hb' hd hc))
 have HG:=hid hG
 have HF:=hid hph
 have hpb:=neq_b hp0
 have HP:=hid hP
 clear hP hG H ho hx hph hp0 hd hc
 go_enter Tryz.func88,Tryz.ntmps88
 have HT0:Hid (Touch (inG p) w w):=hid (Touch.refl _ _)
 go_wp2_with fail
 refine(bQ HG.out _ HF.out).mono ?_
 rintro e wm1 ⟨rfl,hG,hT⟩
 have HG1:=hid hG
 have HT1:Hid (Touch (inG p) _ wm1):=hid (HT0.out.trans hT)
 clear hG hT
 go_wp2_with fail
 refine(aZ HG1.out P HP.out).mono ?_
 rintro e wm2 ⟨rfl,hG,hT⟩
 have HG2:=hid hG
 have HT2:Hid (Touch (inG p) _ wm2):=hid (HT1.out.trans hT)
 clear hG hT
 have HGa:=hid (HG2.out.alloc (.cells #[.int .i64 P] 3))
 have HTa:=hid (HT2.out.alloc (.cells #[.int .i64 P] 3))
 have HQa:=hid (Blk.new wm2 #[.int .i64 P] 3)
 have HQo:=hid HG2.out.nP
 go_wp2_with fail
 refine(HC.out _ _ _ HGa.out HQa.out HQo.out).mono ?_
 rintro e w2 ⟨rfl,hG,hT⟩
 have HG2:=hid hG
 have HT2:=hid (HTa.out.trans hT)
 clear hG hT
 go_wp2_with fail
 go_ret
 exact⟨rfl,HG2.out,HT2.out⟩
theorem Em(ph:Int)(hph:nth s.zs 11=ph)(hp0:¬ph=0)(P:Int)(hP:nth s.zs 10=P)(h01:P=0∨P=1)(hG:G w p c s)(H:ah c s.zs pool os)(ho:o∈os)(x:Int)(hx:nth s.zs (adr c o.h 0)=x)(hd:uD x=0)(hc:¬uC x=P)(l:List Nat)(hR:RingAt c (s.zs.set (adr c o.h 0) (dD x P (uN x) (uS x) (uD x))) l)(hl:o.h∈l):Calls Tryz.prog 88 #[.pointer (some ⟨p.a,0,none⟩),.int .i64 ((o.h:Int)+1)] w (GP w p c ⟨s.zs.set (adr c o.h 0) (dD x P (uN x) (uS x) (uD x)),s.m+6⟩ (.bool true)):=by
 have hmf:∀(fn:Fn) (first cap:Array Value) (w:World),(Instr.makeFunc fn first cap).run Tryz.prog w=.ok (.func fn first cap) w:=fun _ _ _ _=>rfl
 have HC:=hid (fun(w':World) (q m:Nat) (hG':G w' p c ⟨s.zs,m⟩) (hq:Blk w' q #[.int .i64 P] 3) (hqo:¬jf p q)=>sO 157 Tryz.call157 q P hG' H ho x hx hq hqo P (uN x) (uS x) (uD x) h01 (bC x).2.1 (bC x).2.2.1 (bC x).2.2.2 (fun w'' b hq' hne hb'=>Eb _ _ _ _ _ _ _ _ _ w'' hq' hne hb' hd hc))
 have hA:=H.obs o ho
 have hW:=hG.may.w
 have HB:=hid hA.hlt
 have HV:Hid (4<c.W):=hid (by omega)
 have e1:=bR hG.may hA.hlt
 clear hA hW
 have hA:=H.obs o ho
 have hmk:=(hR.mrk o.h hA.hlt).2 hl
 have htk:=hA.tok
 have hhd:=hA.head
 rw[hx] at htk hhd
 have hok:=mi htk hhd h01 (bC x).2.1 (bC x).2.2.1 (bC x).2.2.2
 have hadr:adr c o.h 0<s.zs.length:=by rw[hG.len];exact fu hA.hlt (by have:=hG.may.w;omega)
 have hset:nth (s.zs.set (adr c o.h 0) (dD x P (uN x) (uS x) (uD x))) (adr c o.h 0)=dD x P (uN x) (uS x) (uD x):=aN hadr _
 have HHd:Hid (bF (nth (s.zs.set (adr c o.h 0) (dD x P (uN x) (uS x) (uD x))) (adr c o.h 0))):=hid (by rw[hset];unfold bF at *;rw[hok.2.1];exact hhd)
 have HTg:Hid (mH c (s.zs.set (adr c o.h 0) (dD x P (uN x) (uS x) (uD x))) (o.h:Int)=dD x P (uN x) (uS x) (uD x)):=hid (by rw[oQ hG.may hA.hlt];exact hset)
 have HRg:=hid hR
 have HLn:=hid hl
 have HMk:Hid (jW (dD x P (uN x) (uS x) (uD x))=false∨jW (dD x P (uN x) (uS x) (uD x))=true∧tN (dD x P (uN x) (uS x) (uD x))=true):=hid (.inr ⟨kZ (by unfold bF at *;rw[hok.2.1];exact hhd),decide_eq_true (by rw[←hset];exact hmk)⟩)
 have HW:Hid (dF (aB c (o.h:Int) 0)=1):=hid (by rw[show aB c (o.h:Int) 0=some (adr c o.h 0) from fQ hA.hlt (v:=0) (by have:=hG.may.w;omega)];rfl)
 have HG:=hid hG
 have HF:=hid hph
 have hpb:=neq_b hp0
 have HP:=hid hP
 clear hP hG H ho hx h01 hph hp0 hd hc hl hR hA hmk htk hhd hok hset hadr
 go_enter Tryz.func88,Tryz.ntmps88
 have HT0:Hid (Touch (inG p) w w):=hid (Touch.refl _ _)
 go_wp2_with fail
 refine(bQ HG.out _ HF.out).mono ?_
 rintro e wm1 ⟨rfl,hG,hT⟩
 have HG1:=hid hG
 have HT1:Hid (Touch (inG p) _ wm1):=hid (HT0.out.trans hT)
 clear hG hT
 go_wp2_with fail
 refine(aZ HG1.out P HP.out).mono ?_
 rintro e wm2 ⟨rfl,hG,hT⟩
 have HG2:=hid hG
 have HT2:Hid (Touch (inG p) _ wm2):=hid (HT1.out.trans hT)
 clear hG hT
 have HGa:=hid (HG2.out.alloc (.cells #[.int .i64 P] 3))
 have HTa:=hid (HT2.out.alloc (.cells #[.int .i64 P] 3))
 have HQa:=hid (Blk.new wm2 #[.int .i64 P] 3)
 have HQo:=hid HG2.out.nP
 go_wp2_with fail
 refine(HC.out _ _ _ HGa.out HQa.out HQo.out).mono ?_
 rintro e w2 ⟨rfl,hG,hT⟩
 have HG2:=hid hG
 have HT2:=hid (HTa.out.trans hT)
 clear hG hT
 go_wp2_with fail
 refine(Jc p c _ (o.h:Int) _ _ HG2.out HTg.out HMk.out).mono ?_
 rintro e wm3 ⟨rfl,hG,hT⟩
 have HG3:=hid hG
 have HT3:Hid (Touch (inG p) _ wm3):=hid (HT2.out.trans hT)
 clear hG hT
 go_wp2_with fail
 go_ret
 exact⟨rfl,HG3.out.fO rfl (by show s.m+1+4+dF (aB c (o.h:Int) 0)=s.m+6;rw[HW.out]),HT3.out⟩
theorem Bf(ph:Int)(hph:nth s.zs 11=ph)(hp0:¬ph=0)(P:Int)(hP:nth s.zs 10=P)(h01:P=0∨P=1)(hG:G w p c s)(H:ah c s.zs pool os)(ho:o∈os)(x:Int)(hx:nth s.zs (adr c o.h 0)=x)(hd:uD x=0)(hc:¬uC x=P)(l:List Nat)(hR:RingAt c (s.zs.set (adr c o.h 0) (dD x P (uN x) (uS x) (uD x))) l)(hl:o.h∉l):Calls Tryz.prog 88 #[.pointer (some ⟨p.a,0,none⟩),.int .i64 ((o.h:Int)+1)] w (GP w p c ⟨bg c o.h (s.zs.set (adr c o.h 0) (dD x P (uN x) (uS x) (uD x))),s.m+14⟩ (.bool true)):=by
 have hmf:∀(fn:Fn) (first cap:Array Value) (w:World),(Instr.makeFunc fn first cap).run Tryz.prog w=.ok (.func fn first cap) w:=fun _ _ _ _=>rfl
 have HC:=hid (fun(w':World) (q m:Nat) (hG':G w' p c ⟨s.zs,m⟩) (hq:Blk w' q #[.int .i64 P] 3) (hqo:¬jf p q)=>sO 157 Tryz.call157 q P hG' H ho x hx hq hqo P (uN x) (uS x) (uD x) h01 (bC x).2.1 (bC x).2.2.1 (bC x).2.2.2 (fun w'' b hq' hne hb'=>Eb _ _ _ _ _ _ _ _ _ w'' hq' hne hb' hd hc))
 have hA:=H.obs o ho
 have hW:=hG.may.w
 have HB:=hid hA.hlt
 have HV:Hid (4<c.W):=hid (by omega)
 have e1:=bR hG.may hA.hlt
 clear hA hW
 have hA:=H.obs o ho
 have hmk:=(hR.mrk o.h hA.hlt).1
 have htk:=hA.tok
 have hhd:=hA.head
 rw[hx] at htk hhd
 have hok:=mi htk hhd h01 (bC x).2.1 (bC x).2.2.1 (bC x).2.2.2
 have hadr:adr c o.h 0<s.zs.length:=by rw[hG.len];exact fu hA.hlt (by have:=hG.may.w;omega)
 have hset:nth (s.zs.set (adr c o.h 0) (dD x P (uN x) (uS x) (uD x))) (adr c o.h 0)=dD x P (uN x) (uS x) (uD x):=aN hadr _
 have HHd:Hid (bF (nth (s.zs.set (adr c o.h 0) (dD x P (uN x) (uS x) (uD x))) (adr c o.h 0))):=hid (by rw[hset];unfold bF at *;rw[hok.2.1];exact hhd)
 have HTg:Hid (mH c (s.zs.set (adr c o.h 0) (dD x P (uN x) (uS x) (uD x))) (o.h:Int)=dD x P (uN x) (uS x) (uD x)):=hid (by rw[oQ hG.may hA.hlt];exact hset)
 have HRg:=hid hR
 have HLn:=hid hl
 have HG:=hid hG
 have HF:=hid hph
 have hpb:=neq_b hp0
 have HP:=hid hP
 clear hP hG H ho hx h01 hph hp0 hd hc hl hR hA hmk htk hhd hok hset hadr
 go_enter Tryz.func88,Tryz.ntmps88
 have HT0:Hid (Touch (inG p) w w):=hid (Touch.refl _ _)
 go_wp2_with fail
 refine(bQ HG.out _ HF.out).mono ?_
 rintro e wm1 ⟨rfl,hG,hT⟩
 have HG1:=hid hG
 have HT1:Hid (Touch (inG p) _ wm1):=hid (HT0.out.trans hT)
 clear hG hT
 go_wp2_with fail
 refine(aZ HG1.out P HP.out).mono ?_
 rintro e wm2 ⟨rfl,hG,hT⟩
 have HG2:=hid hG
 have HT2:Hid (Touch (inG p) _ wm2):=hid (HT1.out.trans hT)
 clear hG hT
 have HGa:=hid (HG2.out.alloc (.cells #[.int .i64 P] 3))
 have HTa:=hid (HT2.out.alloc (.cells #[.int .i64 P] 3))
 have HQa:=hid (Blk.new wm2 #[.int .i64 P] 3)
 have HQo:=hid HG2.out.nP
 go_wp2_with fail
 refine(HC.out _ _ _ HGa.out HQa.out HQo.out).mono ?_
 rintro e w2 ⟨rfl,hG,hT⟩
 have HG2:=hid hG
 have HT2:=hid (HTa.out.trans hT)
 clear hG hT
 go_wp2_with fail
 refine(Fy p c _ o.h l _ HG2.out HRg.out HB.out HLn.out HHd.out).mono ?_
 rintro e wm3 ⟨rfl,hG,hT⟩
 have HG3:=hid hG
 have HT3:Hid (Touch (inG p) _ wm3):=hid (HT2.out.trans hT)
 clear hG hT
 go_wp2_with fail
 go_ret
 exact⟨rfl,HG3.out.fO rfl (by show s.m+1+4+9=s.m+14;omega),HT3.out⟩
theorem Bb(P:Int)(hP:nth s.zs 10=P)(hG:G w p c s)(H:ah c s.zs pool os)(hr:In64 r)(ho:dJ os r=none):Calls Tryz.prog 181 #[.pointer (some ⟨p.a,0,none⟩),.int .i64 r] w (GP w p c ⟨s.zs,s.m+(2*dF (aB c (prev r) 0)+1)⟩ (.bool false)):=by
 have hmf:∀(fn:Fn) (first cap:Array Value) (w:World),(Instr.makeFunc fn first cap).run Tryz.prog w=.ok (.func fn first cap) w:=fun _ _ _ _=>rfl
 have HC:=hid (fun(w':World) (m:Nat) (V:Value) (hG':G w' p c ⟨s.zs,m⟩)=>zw V hG' H hr ho)
 have HS:=hid (mM hG H hr ho)
 have HP:=hid hP
 have HG:=hid hG
 clear hP hG H hr ho
 go_enter Tryz.func181,Tryz.ntmps181
 have HT0:Hid (Touch (inG p) w w):=hid (Touch.refl _ _)
 go_wp2_with fail
 refine(HS.out).mono ?_
 rintro e wm1 ⟨rfl,hG,hT⟩
 have HG1:=hid hG
 have HT1:Hid (Touch (inG p) _ wm1):=hid (HT0.out.trans hT)
 clear hG hT
 go_wp2_with fail
 refine(aZ HG1.out P HP.out).mono ?_
 rintro e wm2 ⟨rfl,hG,hT⟩
 have HG2:=hid hG
 have HT2:Hid (Touch (inG p) _ wm2):=hid (HT1.out.trans hT)
 clear hG hT
 have HGa:=hid (HG2.out.alloc (.cells #[.int .i64 P] 3))
 have HTa:=hid (HT2.out.alloc (.cells #[.int .i64 P] 3))
 go_wp2_with fail
 refine(HC.out _ _ _ HGa.out).mono ?_
 rintro e v2 ⟨rfl,hG,hT⟩
 have HG2:=hid hG
 have HT2:=hid (HTa.out.trans hT)
 clear hG hT
 go_wp2_with fail
 go_ret
 exact⟨rfl,HG2.out.fO rfl (by show s.m+_+1+_=_;omega),HT2.out⟩
theorem yg(P:Int)(hP:nth s.zs 10=P)(h01:P=0∨P=1)(hG:G w p c s)(H:ah c s.zs pool os)(ho:o∈os)(x:Int)(hx:nth s.zs (adr c o.h 0)=x)(n:Int)(k:Nat)(hSh:∀(w':World) (m:Nat),G w' p c ⟨s.zs,m⟩→Calls Tryz.prog 121 #[.pointer (some ⟨p.a,0,none⟩),.int .i64 ((o.h:Int)+1)] w' (GP w' p c ⟨s.zs,m+k⟩ (.int .i64 n)))(hn0:0≤n)(hn1:n<4294967295):Calls Tryz.prog 181 #[.pointer (some ⟨p.a,0,none⟩),.int .i64 ((o.h:Int)+1)] w (GP w p c ⟨(s.zs.set (adr c o.h 0) (dD x (uC x) (uN x) P (uD x))).set (adr c o.h 4) (n+1),s.m+(k+5)⟩ (.bool true)):=by
 have hmf:∀(fn:Fn) (first cap:Array Value) (w:World),(Instr.makeFunc fn first cap).run Tryz.prog w=.ok (.func fn first cap) w:=fun _ _ _ _=>rfl
 have HC:=hid (fun(w':World) (q m:Nat) (hG':G w' p c ⟨s.zs,m⟩) (hq:Blk w' q #[.int .i64 P] 3) (hqo:¬jf p q)=>sO 214 Tryz.call214 q P hG' H ho x hx hq hqo (uC x) (uN x) P (uD x) (bC x).1 (bC x).2.1 h01 (bC x).2.2.2 (fun w'' b hq' hne hb'=>Jo _ _ _ _ _ _ _ _ _ w'' hq' hne hb'))
 have hA:=H.obs o ho
 have hW:=hG.may.w
 have HB:=hid hA.hlt
 have HV:Hid (4<c.W):=hid (by omega)
 have e1:=bR hG.may hA.hlt
 clear hA hW
 have HS:=hid hSh
 have HP:=hid hP
 have HG:=hid hG
 have hne:(n==4294967295)=false:=neq_b (by omega)
 have hw1:IntKind.i64.wrap (n+1)=n+1:=IntWalk.i64_in _ (by omega)
 have hw2:IntKind.u32.wrap (n+1)=n+1:=IntWalk.u32_in _ (by omega)
 have HN0:Hid (0≤n+1):=hid (by omega)
 have HN1:Hid (n+1≤4294967295):=hid (by omega)
 clear hP hG H ho hx h01 hSh hn0 hn1
 go_enter Tryz.func181,Tryz.ntmps181
 have HT0:Hid (Touch (inG p) w w):=hid (Touch.refl _ _)
 go_wp2_with fail
 refine(HS.out _ _ HG.out).mono ?_
 rintro e wm1 ⟨rfl,hG,hT⟩
 have HG1:=hid hG
 have HT1:Hid (Touch (inG p) _ wm1):=hid (HT0.out.trans hT)
 clear hG hT
 go_wp2_with fail
 refine(aZ HG1.out P HP.out).mono ?_
 rintro e wm2 ⟨rfl,hG,hT⟩
 have HG2:=hid hG
 have HT2:Hid (Touch (inG p) _ wm2):=hid (HT1.out.trans hT)
 clear hG hT
 have HGa:=hid (HG2.out.alloc (.cells #[.int .i64 P] 3))
 have HTa:=hid (HT2.out.alloc (.cells #[.int .i64 P] 3))
 have HQa:=hid (Blk.new wm2 #[.int .i64 P] 3)
 have HQo:=hid HG2.out.nP
 go_wp2_with fail
 refine(HC.out _ _ _ HGa.out HQa.out HQo.out).mono ?_
 rintro e w2 ⟨rfl,hG,hT⟩
 have HG2:=hid hG
 have HT2:=hid (HTa.out.trans hT)
 clear hG hT
 go_wp2_with fail
 refine(aK p c _ o.h 4 _ _ (n+1) _ HG2.out HB.out HV.out rfl rfl HN0.out HN1.out).mono ?_
 rintro e wm3 ⟨rfl,hG,hT⟩
 have HG3:=hid hG
 have HT3:Hid (Touch (inG p) _ wm3):=hid (HT2.out.trans hT)
 clear hG hT
 go_wp2_with fail
 go_ret
 exact⟨rfl,HG3.out.fO rfl (by show s.m+k+4+1=_;omega),HT3.out⟩
theorem uu(ph:Int)(hG:G w p c s)(hph:nth s.zs 11=ph)(h1:¬ph=1)(h2:¬ph=2):Calls Tryz.prog 188 #[.pointer (some ⟨p.a,0,none⟩),.int .i64 r] w (GP w p c ⟨s.zs,s.m+1⟩ (.bool false)):=by
 have HG:=hid hG
 have HF:=hid hph
 have n1:(ph !=1)=true:=by simp[h1]
 have n2:(ph !=2)=true:=by simp[h2]
 clear hG hph h1 h2
 go_enter Tryz.func188,Tryz.ntmps188
 have HT0:Hid (Touch (inG p) w w):=hid (Touch.refl _ _)
 go_wp2_with fail
 refine(bQ HG.out _ HF.out).mono ?_
 rintro e wm1 ⟨rfl,hG,hT⟩
 have HG1:=hid hG
 have HT1:Hid (Touch (inG p) _ wm1):=hid (HT0.out.trans hT)
 clear hG hT
 go_wp2_with fail
 go_ret
 exact⟨rfl,HG1.out,HT1.out⟩
theorem yh(ph:Int)(hph:nth s.zs 11=ph)(h12:ph=1∨ph=2)(hG:G w p c s)(H:ah c s.zs pool os)(hr:In64 r)(ho:dJ os r=none):Calls Tryz.prog 188 #[.pointer (some ⟨p.a,0,none⟩),.int .i64 r] w (GP w p c ⟨s.zs,s.m+(2*dF (aB c (prev r) 0)+1)⟩ (.bool false)):=by
 have HS1:=hid (fun(w':World) (m:Nat) (hG':G w' p c ⟨s.zs,m⟩)=>uk hG' H hr ho)
 have HS2:=hid (fun(w':World) (m:Nat) (hG':G w' p c ⟨s.zs,m⟩)=>mM hG' H hr ho)
 have HG:=hid hG
 have HF:=hid hph
 clear hG hph H ho
 rcases h12 with rfl|rfl
 ·go_enter Tryz.func188,Tryz.ntmps188
  have HT0:Hid (Touch (inG p) w w):=hid (Touch.refl _ _)
  go_wp2_with fail
  refine(bQ HG.out _ HF.out).mono ?_
  rintro e wm1 ⟨rfl,hG,hT⟩
  have HG1:=hid hG
  have HT1:Hid (Touch (inG p) _ wm1):=hid (HT0.out.trans hT)
  clear hG hT
  go_wp2_with fail
  refine(HS1.out _ _ HG1.out).mono ?_
  rintro e wm2 ⟨rfl,hG,hT⟩
  have HG2:=hid hG
  have HT2:Hid (Touch (inG p) _ wm2):=hid (HT1.out.trans hT)
  clear hG hT
  go_wp2_with fail
  refine(HS2.out _ _ HG2.out).mono ?_
  rintro e wm3 ⟨rfl,hG,hT⟩
  have HG3:=hid hG
  have HT3:Hid (Touch (inG p) _ wm3):=hid (HT2.out.trans hT)
  clear hG hT
  go_wp2_with fail
  go_ret
  exact⟨rfl,HG3.out.fO rfl (by show s.m+1+_+_=_;omega),HT3.out⟩
 ·go_enter Tryz.func188,Tryz.ntmps188
  have HT0:Hid (Touch (inG p) w w):=hid (Touch.refl _ _)
  go_wp2_with fail
  refine(bQ HG.out _ HF.out).mono ?_
  rintro e wm1 ⟨rfl,hG,hT⟩
  have HG1:=hid hG
  have HT1:Hid (Touch (inG p) _ wm1):=hid (HT0.out.trans hT)
  clear hG hT
  go_wp2_with fail
  refine(HS1.out _ _ HG1.out).mono ?_
  rintro e wm2 ⟨rfl,hG,hT⟩
  have HG2:=hid hG
  have HT2:Hid (Touch (inG p) _ wm2):=hid (HT1.out.trans hT)
  clear hG hT
  go_wp2_with fail
  refine(HS2.out _ _ HG2.out).mono ?_
  rintro e wm3 ⟨rfl,hG,hT⟩
  have HG3:=hid hG
  have HT3:Hid (Touch (inG p) _ wm3):=hid (HT2.out.trans hT)
  clear hG hT
  go_wp2_with fail
  go_ret
  exact⟨rfl,HG3.out.fO rfl (by show s.m+1+_+_=_;omega),HT3.out⟩
theorem sU(ph:Int)(hph:nth s.zs 11=ph)(h12:ph=1∨ph=2)(hG:G w p c s)(H:ah c s.zs pool os)(ho:o∈os)(x:Int)(hx:nth s.zs (adr c o.h 0)=x)(P:Int)(hP:nth s.zs 10=P)(hc:uC x=P):Calls Tryz.prog 188 #[.pointer (some ⟨p.a,0,none⟩),.int .i64 ((o.h:Int)+1)] w (GP w p c ⟨s.zs,s.m+4⟩ (.bool false)):=by
 have HS1:=hid (fun(w':World) (m:Nat) (hG':G w' p c ⟨s.zs,m⟩)=>jD hG' H ho x hx P hP)
 have HD:Hid (decide (uC x=P)=true):=hid (decide_eq_true hc)
 clear hx hP hc
 have HG:=hid hG
 have HF:=hid hph
 clear hG hph H ho
 rcases h12 with rfl|rfl
 ·go_enter Tryz.func188,Tryz.ntmps188
  have HT0:Hid (Touch (inG p) w w):=hid (Touch.refl _ _)
  go_wp2_with fail
  refine(bQ HG.out _ HF.out).mono ?_
  rintro e wm1 ⟨rfl,hG,hT⟩
  have HG1:=hid hG
  have HT1:Hid (Touch (inG p) _ wm1):=hid (HT0.out.trans hT)
  clear hG hT
  go_wp2_with fail
  refine(HS1.out _ _ HG1.out).mono ?_
  rw[HD.out]
  rintro e wm2 ⟨rfl,hG,hT⟩
  have HG2:=hid hG
  have HT2:Hid (Touch (inG p) _ wm2):=hid (HT1.out.trans hT)
  clear hG hT
  go_wp2_with fail
  go_ret
  exact⟨rfl,HG2.out,HT2.out⟩
 ·go_enter Tryz.func188,Tryz.ntmps188
  have HT0:Hid (Touch (inG p) w w):=hid (Touch.refl _ _)
  go_wp2_with fail
  refine(bQ HG.out _ HF.out).mono ?_
  rintro e wm1 ⟨rfl,hG,hT⟩
  have HG1:=hid hG
  have HT1:Hid (Touch (inG p) _ wm1):=hid (HT0.out.trans hT)
  clear hG hT
  go_wp2_with fail
  refine(HS1.out _ _ HG1.out).mono ?_
  rw[HD.out]
  rintro e wm2 ⟨rfl,hG,hT⟩
  have HG2:=hid hG
  have HT2:Hid (Touch (inG p) _ wm2):=hid (HT1.out.trans hT)
  clear hG hT
  go_wp2_with fail
  go_ret
  exact⟨rfl,HG2.out,HT2.out⟩
theorem uw(ph:Int)(hph:nth s.zs 11=ph)(h12:ph=1∨ph=2)(hG:G w p c s)(H:ah c s.zs pool os)(ho:o∈os)(x:Int)(hx:nth s.zs (adr c o.h 0)=x)(P:Int)(hP:nth s.zs 10=P)(hc:¬uC x=P)(n:Int)(k:Nat)(hSh:∀(w':World) (m:Nat),G w' p c ⟨s.zs,m⟩→Calls Tryz.prog 121 #[.pointer (some ⟨p.a,0,none⟩),.int .i64 ((o.h:Int)+1)] w' (GP w' p c ⟨s.zs,m+k⟩ (.int .i64 n)))(hn:n=0):Calls Tryz.prog 188 #[.pointer (some ⟨p.a,0,none⟩),.int .i64 ((o.h:Int)+1)] w (GP w p c ⟨s.zs,s.m+(4+k)⟩ (.bool false)):=by
 have HS1:=hid (fun(w':World) (m:Nat) (hG':G w' p c ⟨s.zs,m⟩)=>jD hG' H ho x hx P hP)
 have HD:Hid (decide (uC x=P)=false):=hid (decide_eq_false hc)
 subst hn
 have HS:=hid hSh
 clear hx hP hc hSh
 have HG:=hid hG
 have HF:=hid hph
 clear hG hph H ho
 rcases h12 with rfl|rfl
 ·go_enter Tryz.func188,Tryz.ntmps188
  have HT0:Hid (Touch (inG p) w w):=hid (Touch.refl _ _)
  go_wp2_with fail
  refine(bQ HG.out _ HF.out).mono ?_
  rintro e wm1 ⟨rfl,hG,hT⟩
  have HG1:=hid hG
  have HT1:Hid (Touch (inG p) _ wm1):=hid (HT0.out.trans hT)
  clear hG hT
  go_wp2_with fail
  refine(HS1.out _ _ HG1.out).mono ?_
  rw[HD.out]
  rintro e wm2 ⟨rfl,hG,hT⟩
  have HG2:=hid hG
  have HT2:Hid (Touch (inG p) _ wm2):=hid (HT1.out.trans hT)
  clear hG hT
  go_wp2_with fail
  refine(HS.out _ _ HG2.out).mono ?_
  rintro e wm3 ⟨rfl,hG,hT⟩
  have HG3:=hid hG
  have HT3:Hid (Touch (inG p) _ wm3):=hid (HT2.out.trans hT)
  clear hG hT
  go_wp2_with fail
  go_ret
  exact⟨rfl,HG3.out.fO rfl (by show s.m+1+3+k=_;omega),HT3.out⟩
 ·go_enter Tryz.func188,Tryz.ntmps188
  have HT0:Hid (Touch (inG p) w w):=hid (Touch.refl _ _)
  go_wp2_with fail
  refine(bQ HG.out _ HF.out).mono ?_
  rintro e wm1 ⟨rfl,hG,hT⟩
  have HG1:=hid hG
  have HT1:Hid (Touch (inG p) _ wm1):=hid (HT0.out.trans hT)
  clear hG hT
  go_wp2_with fail
  refine(HS1.out _ _ HG1.out).mono ?_
  rw[HD.out]
  rintro e wm2 ⟨rfl,hG,hT⟩
  have HG2:=hid hG
  have HT2:Hid (Touch (inG p) _ wm2):=hid (HT1.out.trans hT)
  clear hG hT
  go_wp2_with fail
  refine(HS.out _ _ HG2.out).mono ?_
  rintro e wm3 ⟨rfl,hG,hT⟩
  have HG3:=hid hG
  have HT3:Hid (Touch (inG p) _ wm3):=hid (HT2.out.trans hT)
  clear hG hT
  go_wp2_with fail
  go_ret
  exact⟨rfl,HG3.out.fO rfl (by show s.m+1+3+k=_;omega),HT3.out⟩
theorem wT(ph:Int)(hph:nth s.zs 11=ph)(h12:ph=1∨ph=2)(hG:G w p c s)(H:ah c s.zs pool os)(ho:o∈os)(x:Int)(hx:nth s.zs (adr c o.h 0)=x)(P:Int)(hP:nth s.zs 10=P)(hc:¬uC x=P)(n:Int)(k:Nat)(hSh:∀(w':World) (m:Nat),G w' p c ⟨s.zs,m⟩→Calls Tryz.prog 121 #[.pointer (some ⟨p.a,0,none⟩),.int .i64 ((o.h:Int)+1)] w' (GP w' p c ⟨s.zs,m+k⟩ (.int .i64 n)))(hn:0<n)(hn1:n≤4294967295):Calls Tryz.prog 188 #[.pointer (some ⟨p.a,0,none⟩),.int .i64 ((o.h:Int)+1)] w (GP w p c ⟨s.zs.set (adr c o.h 4) (n-1),s.m+(5+k)⟩ (.bool true)):=by
 have HS1:=hid (fun(w':World) (m:Nat) (hG':G w' p c ⟨s.zs,m⟩)=>jD hG' H ho x hx P hP)
 have hA:=H.obs o ho
 have hW:=hG.may.w
 have HB:=hid hA.hlt
 have HV:Hid (4<c.W):=hid (by omega)
 have e1:=bR hG.may hA.hlt
 clear hA hW
 have HD:Hid (decide (uC x=P)=false):=hid (decide_eq_false hc)
 have HS:=hid hSh
 have hw1:IntKind.i64.wrap (n-1)=n-1:=IntWalk.i64_in _ (by omega)
 have hw2:IntKind.u32.wrap (n-1)=n-1:=IntWalk.u32_in _ (by omega)
 have HN0:Hid (0≤n-1):=hid (by omega)
 have HN1:Hid (n-1≤4294967295):=hid (by omega)
 clear hx hP hc hSh hn1
 have HG:=hid hG
 have HF:=hid hph
 clear hG hph H ho
 rcases h12 with rfl|rfl
 ·go_enter Tryz.func188,Tryz.ntmps188
  have HT0:Hid (Touch (inG p) w w):=hid (Touch.refl _ _)
  go_wp2_with fail
  refine(bQ HG.out _ HF.out).mono ?_
  rintro e wm1 ⟨rfl,hG,hT⟩
  have HG1:=hid hG
  have HT1:Hid (Touch (inG p) _ wm1):=hid (HT0.out.trans hT)
  clear hG hT
  go_wp2_with fail
  refine(HS1.out _ _ HG1.out).mono ?_
  rw[HD.out]
  rintro e wm2 ⟨rfl,hG,hT⟩
  have HG2:=hid hG
  have HT2:Hid (Touch (inG p) _ wm2):=hid (HT1.out.trans hT)
  clear hG hT
  go_wp2_with fail
  refine(HS.out _ _ HG2.out).mono ?_
  rintro e wm3 ⟨rfl,hG,hT⟩
  have HG3:=hid hG
  have HT3:Hid (Touch (inG p) _ wm3):=hid (HT2.out.trans hT)
  clear hG hT
  go_wp2_with fail
  refine(aK p c _ o.h 4 _ _ (n-1) _ HG3.out HB.out HV.out rfl rfl HN0.out HN1.out).mono ?_
  rintro e wm4 ⟨rfl,hG,hT⟩
  have HG4:=hid hG
  have HT4:Hid (Touch (inG p) _ wm4):=hid (HT3.out.trans hT)
  clear hG hT
  go_wp2_with fail
  go_ret
  exact⟨rfl,HG4.out.fO rfl (by show s.m+1+3+k+1=_;omega),HT4.out⟩
 ·go_enter Tryz.func188,Tryz.ntmps188
  have HT0:Hid (Touch (inG p) w w):=hid (Touch.refl _ _)
  go_wp2_with fail
  refine(bQ HG.out _ HF.out).mono ?_
  rintro e wm1 ⟨rfl,hG,hT⟩
  have HG1:=hid hG
  have HT1:Hid (Touch (inG p) _ wm1):=hid (HT0.out.trans hT)
  clear hG hT
  go_wp2_with fail
  refine(HS1.out _ _ HG1.out).mono ?_
  rw[HD.out]
  rintro e wm2 ⟨rfl,hG,hT⟩
  have HG2:=hid hG
  have HT2:Hid (Touch (inG p) _ wm2):=hid (HT1.out.trans hT)
  clear hG hT
  go_wp2_with fail
  refine(HS.out _ _ HG2.out).mono ?_
  rintro e wm3 ⟨rfl,hG,hT⟩
  have HG3:=hid hG
  have HT3:Hid (Touch (inG p) _ wm3):=hid (HT2.out.trans hT)
  clear hG hT
  go_wp2_with fail
  refine(aK p c _ o.h 4 _ _ (n-1) _ HG3.out HB.out HV.out rfl rfl HN0.out HN1.out).mono ?_
  rintro e wm4 ⟨rfl,hG,hT⟩
  have HG4:=hid hG
  have HT4:Hid (Touch (inG p) _ wm4):=hid (HT3.out.trans hT)
  clear hG hT
  go_wp2_with fail
  go_ret
  exact⟨rfl,HG4.out.fO rfl (by show s.m+1+3+k+1=_;omega),HT4.out⟩
end
section
variable {c:Cf} {D D':Wd} {zs zs':List Int} {t:Th} {r:Int}
theorem KJ(l:List Nat)(b:Nat):hasB (ints l) (b:Int)=decide (b∈l):=by
 unfold hasB ints
 rw[List.any_map]
 induction l with
 |nil=>rfl
 |cons a l ih=>
  rw[List.any_cons,ih]
  by_cases e:a=b
  ·subst e;simp
  ·have e1:¬((a:Int)=(b:Int)):=by omega
   have e2:¬b=a:=fun h=>e h.symm
   simp[e1,e2]
theorem Wz.set(h:Wz c zs)(k:Nat){v:Int}(h0:0≤v)(h1:v≤4294967295):Wz c (zs.set k v):=⟨h.may,by simp;exact h.len,h.wf.set k h0 h1⟩
theorem kC(zs:List Int)(t:Th):nth zs (adr c t.ob.h 0)=nth zs (adr c t.h 0):=rfl
theorem gB(a:Option Nat):dF a≤1:=lU a
theorem Oo(hz:Wz c zs)(R:av c zs D):av c (zs.set 10 (1-D.parity)) D.turn:=by
 refine R.jv hz.may hz.len (k:=10) (by omega) (by omega) rfl rfl rfl rfl rfl rfl rfl rfl (fun j h1 h2 h3=> ?_) (by have:=R.par;show 1-D.parity=0∨1-D.parity=1;omega)
 have:j=11∨j=12∨j=13∨j=14∨j=15∨j=16∨j=17∨j=18:=by omega
 rcases this with rfl|rfl|rfl|rfl|rfl|rfl|rfl|rfl<;>rfl
theorem Om(hz:Wz c zs)(R:av c zs D)(x y:Int):av c ((zs.set 12 x).set 13 y) (D.move x y):=by
 have R1:av c (zs.set 12 x) {D with cursor:=x}:=by
  refine R.jv hz.may hz.len (k:=12) (by omega) (by omega) rfl rfl rfl rfl rfl rfl rfl rfl (fun j h1 h2 h3=> ?_) R.par
  have:j=10∨j=11∨j=13∨j=14∨j=15∨j=16∨j=17∨j=18:=by omega
  rcases this with rfl|rfl|rfl|rfl|rfl|rfl|rfl|rfl<;>rfl
 refine R1.jv hz.may (by simp;exact hz.len) (k:=13) (by omega) (by omega) rfl rfl rfl rfl rfl rfl rfl rfl (fun j h1 h2 h3=> ?_) R.par
 have:j=10∨j=11∨j=12∨j=14∨j=15∨j=16∨j=17∨j=18:=by omega
 rcases this with rfl|rfl|rfl|rfl|rfl|rfl|rfl|rfl<;>rfl
theorem Mf(hz:Wz c zs)(R:av c zs D)(y:Int):av c (((((zs.set 11 y).set 12 0).set 13 0).set 14 0).set 15 0) (D.begin y):=by
 have R1:av c (zs.set 11 y) {D with phase:=y}:=by
  refine R.jv hz.may hz.len (k:=11) (by omega) (by omega) rfl rfl rfl rfl rfl rfl rfl rfl (fun j h1 h2 h3=> ?_) R.par
  have:j=10∨j=12∨j=13∨j=14∨j=15∨j=16∨j=17∨j=18:=by omega
  rcases this with rfl|rfl|rfl|rfl|rfl|rfl|rfl|rfl<;>rfl
 have R2:av c ((zs.set 11 y).set 12 0) {D with phase:=y,cursor:=0}:=by
  refine R1.jv hz.may (by simp;exact hz.len) (k:=12) (by omega) (by omega) rfl rfl rfl rfl rfl rfl rfl rfl (fun j h1 h2 h3=> ?_) R.par
  have:j=10∨j=11∨j=13∨j=14∨j=15∨j=16∨j=17∨j=18:=by omega
  rcases this with rfl|rfl|rfl|rfl|rfl|rfl|rfl|rfl<;>rfl
 have R3:av c (((zs.set 11 y).set 12 0).set 13 0) {D with phase:=y,cursor:=0,field:=0}:=by
  refine R2.jv hz.may (by simp;exact hz.len) (k:=13) (by omega) (by omega) rfl rfl rfl rfl rfl rfl rfl rfl (fun j h1 h2 h3=> ?_) R.par
  have:j=10∨j=11∨j=12∨j=14∨j=15∨j=16∨j=17∨j=18:=by omega
  rcases this with rfl|rfl|rfl|rfl|rfl|rfl|rfl|rfl<;>rfl
 have R4:av c ((((zs.set 11 y).set 12 0).set 13 0).set 14 0) {D with phase:=y,cursor:=0,field:=0,scan:=0}:=by
  refine R3.jv hz.may (by simp;exact hz.len) (k:=14) (by omega) (by omega) rfl rfl rfl rfl rfl rfl rfl rfl (fun j h1 h2 h3=> ?_) R.par
  have:j=10∨j=11∨j=12∨j=13∨j=15∨j=16∨j=17∨j=18:=by omega
  rcases this with rfl|rfl|rfl|rfl|rfl|rfl|rfl|rfl<;>rfl
 refine R4.jv hz.may (by simp;exact hz.len) (k:=15) (by omega) (by omega) rfl rfl rfl rfl rfl rfl rfl rfl (fun j h1 h2 h3=> ?_) R.par
 have:j=10∨j=11∨j=12∨j=13∨j=14∨j=16∨j=17∨j=18:=by omega
 rcases this with rfl|rfl|rfl|rfl|rfl|rfl|rfl|rfl<;>rfl
theorem gW(R:av c zs D)(hf:D.find r=none):dJ D.obs r=none:=by rw[obAt_find R r,hf];rfl
theorem sQ(R:av c zs D)(hf:D.find r=some t){c' n' s' d':Int}(hz:Wz c zs)(hc:c'=0∨c'=1)(hn:n'=0∨n'=1)(hs:s'=0∨s'=1)(hd:d'=uD (nth zs (adr c t.h 0))∨d'=1)(f:Mrk→Mrk)
  (hm:f t.mr={t.mr with color:=c',count:=n',shade:=s',dead:=decide (d'=1)}):av c (zs.set (adr c t.h 0) (dD (nth zs (adr c t.h 0)) c' n' s' d')) (D.mark r f):=by
 obtain⟨h1,h2,h3,h4,h5⟩:=R.fH hf
 refine R.PG hz.may hz.len hf hc hn hs ?_ (fun h=> ?_) hm
 ·have:=(bC (nth zs (adr c t.h 0))).2.2.2
  rcases hd with rfl|rfl
  ·exact this
  ·exact .inr rfl
 ·rcases hd with rfl|rfl
  ·exact h5.Kj h
  ·rfl
theorem DZ(R:av c zs D)(hz:Wz c zs)(hf:D.find r=some t):av c (zs.set (adr c t.h 0) (dD (nth zs (adr c t.h 0)) D.parity (uN (nth zs (adr c t.h 0))) (uS (nth zs (adr c t.h 0))) (uD (nth zs (adr c t.h 0))))) (D.paint r):=by
 obtain⟨h1,h2,h3,h4,h5⟩:=R.fH hf
 exact sQ R hf hz R.par (bC _).2.1 (bC _).2.2.1 (.inl rfl) _ (by simp only;rw[h5.cN,h5.cS,h5.yE])
theorem Oj(R:av c zs D)(hz:Wz c zs)(hf:D.find r=some t):av c (zs.set (adr c t.h 0) (dD (nth zs (adr c t.h 0)) (uC (nth zs (adr c t.h 0))) D.parity (uS (nth zs (adr c t.h 0))) (uD (nth zs (adr c t.h 0))))) (D.done r):=by
 obtain⟨h1,h2,h3,h4,h5⟩:=R.fH hf
 exact sQ R hf hz (bC _).1 R.par (bC _).2.2.1 (.inl rfl) _ (by simp only;rw[h5.cC,h5.cS,h5.yE])
theorem Ol(R:av c zs D)(hz:Wz c zs)(hf:D.find r=some t):av c (zs.set (adr c t.h 0) (dD (nth zs (adr c t.h 0)) (uC (nth zs (adr c t.h 0))) (uN (nth zs (adr c t.h 0))) (uS (nth zs (adr c t.h 0))) 1)) (D.kill r):=by
 obtain⟨h1,h2,h3,h4,h5⟩:=R.fH hf
 exact sQ R hf hz (bC _).1 (bC _).2.1 (bC _).2.2.1 (.inr rfl) _ (by simp only;rw[h5.cC,h5.cN,h5.cS];rfl)
theorem Qn(R:av c zs D)(hz:Wz c zs)(hf:D.find r=some t):av c ((zs.set (adr c t.h 0) (dD (nth zs (adr c t.h 0)) D.parity D.parity D.parity (uD (nth zs (adr c t.h 0))))).set (adr c t.h 4) 0) (D.dye r):=by
 obtain⟨h1,h2,h3,h4,h5⟩:=R.fH hf
 have R1:=sQ R hf hz R.par R.par R.par (.inl rfl) (fun m=>{m with color:=D.parity,count:=D.parity,shade:=D.parity}) (by simp only;rw[h5.yE])
 have R2:=R1.nZ hz.may (by simp;exact hz.len) (mark_find _ hf) (v:=4) (.inr rfl) (x:=0) (f:=fun m=>{m with shadow:=0}) rfl
 rw[lm] at R2
 exact R2
theorem Jl(R:av c zs D)(hz:Wz c zs)(hf:D.find r=some t):av c ((zs.set (adr c t.h 0) (dD (nth zs (adr c t.h 0)) (uC (nth zs (adr c t.h 0))) (uN (nth zs (adr c t.h 0))) D.parity (uD (nth zs (adr c t.h 0))))).set (adr c t.h 4) (D.dP r+1)) (D.aW r):=by
 obtain⟨h1,h2,h3,h4,h5⟩:=R.fH hf
 have R1:=sQ R hf hz (bC _).1 (bC _).2.1 R.par (.inl rfl) (fun m=>{m with shade:=D.parity}) (by simp only;rw[h5.cC,h5.cN,h5.yE])
 have R2:=R1.nZ hz.may (by simp;exact hz.len) (mark_find _ hf) (v:=4) (.inr rfl) (x:=D.dP r+1) (f:=fun m=>{m with shadow:=D.dP r+1}) rfl
 rw[lm] at R2
 exact R2
theorem sP(R:av c zs D)(hz:Wz c zs)(hf:D.find r=some t):∃k,k≤4∧0≤D.dP r∧D.dP r≤4294967295∧∀(p:Pl) (w:World) (m:Nat),G w p c ⟨zs,m⟩→Calls Tryz.prog 121 #[.pointer (some ⟨p.a,0,none⟩),.int .i64 ((t.ob.h:Int)+1)] w (GP w p c ⟨zs,m+k⟩ (.int .i64 (D.dP r))):=by
 obtain⟨h1,h2,h3,h4,h5⟩:=R.fH hf
 have hP:=R.reg 10 (by omega) (by omega)
 have hwf:=hz.wf (adr c t.h 4)
 by_cases e:t.mr.shade=D.parity
 ·have es:D.dP r=nth zs (adr c t.h 4):=by unfold Wd.dP;rw[hf];simp only;rw[if_pos e,h5.w4]
  refine⟨4,by omega,by rw[es];exact hwf.1,by rw[es];exact hwf.2,fun p w m hG=> ?_⟩
  rw[es]
  exact yj (s:=⟨zs,m⟩) (o:=t.ob) hG R.heap h3 (nth zs (adr c t.h 0)) (kC zs t) D.parity hP (by show uS (nth zs (adr c t.h 0))=_;rw[h5.cS];exact e) _ rfl
 ·have es:D.dP r=0:=by unfold Wd.dP;rw[hf];simp only;rw[if_neg e]
  refine⟨3,by omega,by rw[es];decide,by rw[es];decide,fun p w m hG=> ?_⟩
  rw[es]
  exact El (s:=⟨zs,m⟩) (o:=t.ob) hG R.heap h3 (nth zs (adr c t.h 0)) (kC zs t) D.parity hP (by show ¬uS (nth zs (adr c t.h 0))=_;rw[h5.cS];exact e)
theorem FR(R:av c zs D)(hz:Wz c zs)(hf:D.find r=some t)(hs:D.dP r≠0):av c (zs.set (adr c t.h 4) (D.dP r-1)) (D.mark r (fun m=>{m with shadow:=m.shadow-1})):=by
 obtain⟨h1,h2,h3,h4,h5⟩:=R.fH hf
 have es:D.dP r=t.mr.shadow:=by
  unfold Wd.dP at hs ⊢
  rw[hf] at hs ⊢
  simp only at hs ⊢
  split
  ·rfl
  ·rename_i e;rw[if_neg e] at hs;exact absurd rfl hs
 rw[es]
 exact R.nZ hz.may hz.len hf (v:=4) (.inr rfl) (x:=t.mr.shadow-1) (f:=fun m=>{m with shadow:=m.shadow-1}) rfl
theorem mK{D:Wd}{r:Int}(h:D.toucht r=false):D.touch r=D:=by
 unfold Wd.touch
 rw[if_neg (by rw[h];decide)]
theorem jB{D:Wd}{r:Int}(h:D.lighter r=false):D.aC r=D:=by
 unfold Wd.aC
 rw[if_neg (by rw[h];decide)]
theorem FT(R:av c zs D)(hz:Wz c zs)(hf:D.find r=some t)(hn:t.h∉D.ring)(hg:t.h+1∉D.grave):av c (bg c t.h zs) {D with ring:=D.ring++[t.h]}:=by
 have hm:=hz.may
 have hw:=hm.w
 obtain⟨h1,h2,h3,h4,h5⟩:=R.fH hf
 obtain⟨K1,K2,K3⟩:=R.heap.NV R.ring hm hz.len h3 (show t.ob.h∉D.ring from hn)
 have hmem:∀x,x∈D.ring→∃u,u∈D.live∧u.h=x:=fun x hx=>by
  obtain⟨o,ho,e⟩:=R.heap.nY hm R.ring hx
  obtain⟨u,hu,rfl⟩:=List.mem_map.1 ho
  exact⟨u,hu,e⟩
 have out:∀i,(i≠7∧i≠8∧i≠9∧i≠adr c t.h 0∧∀x,(x=t.h∨x∈D.ring)→i≠adr c x 6∧i≠adr c x 7)→nth (bg c t.h zs) i=nth zs i:=fun i hi=>nW R.ring hz.len hi
 have oreg:∀i,i<24→i≠7→i≠8→i≠9→nth (bg c t.h zs) i=nth zs i:=fun i h24 a7 a8 a9=>out i ⟨a7,a8,a9,by have:=aI c t.h 0;omega,fun x _=>⟨by have:=aI c x 6;omega,by have:=aI c x 7;omega⟩⟩
 have oown:∀b u,u<8→u≠0→u≠6→u≠7→nth (bg c t.h zs) (adr c b u)=nth zs (adr c b u):=fun b u hu a0 a6 a7=>out _ ⟨by have:=aI c b u;omega,by have:=aI c b u;omega,by have:=aI c b u;omega,fun e=>a0 (ax (by omega) (by omega) e).2,fun x _=>⟨fun e=>a6 (ax (by omega) (by omega) e).2,fun e=>a7 (ax (by omega) (by omega) e).2⟩⟩
 have hlt:=R.hlt (find_live hf).1
 have hmk:uG (nth zs (adr c t.h 0))=0:=R.ring.QQ hlt hn
 have otag:∀b,b<c.N→uC (nth (bg c t.h zs) (adr c b 0))=uC (nth zs (adr c b 0))∧uN (nth (bg c t.h zs) (adr c b 0))=uN (nth zs (adr c b 0))∧uS (nth (bg c t.h zs) (adr c b 0))=uS (nth zs (adr c b 0))∧uD (nth (bg c t.h zs) (adr c b 0))=uD (nth zs (adr c b 0)):=fun b hb=>by
  rw[tV hm hz.len hb]
  by_cases e:b=t.h
  ·subst e
   rw[if_pos rfl]
   unfold uG at hmk
   unfold uC uN uS uD
   omega
  ·rw[if_neg e]
   exact⟨rfl,rfl,rfl,rfl⟩
 refine R.frame hm K2 rfl rfl rfl rfl (fun u hu=>⟨u,hu,rfl,rfl,rfl,rfl⟩) (fun u hu=> ?_) K1 (R.grave.same (fun j j1 j2=>oreg j (by omega) (by omega) (by omega) (by omega)) (fun b _=>oown b 5 (by omega) (by omega) (by omega) (by omega))) (by rw[oreg 6 (by omega) (by omega) (by omega) (by omega)];exact R.r6) (fun j j1 j2=>by rw[oreg j (by omega) (by omega) (by omega) (by omega)];exact R.reg j j1 j2) R.par R.gv (fun u hu hug=> ?_)
 ·have ho:=R.own u hu
  obtain⟨a1,a2,a3,a4⟩:=otag u.h (R.hlt hu)
  exact⟨a1.trans ho.cC,a2.trans ho.cN,a3.trans ho.cS,a4.trans ho.cD,by rw[oown _ 3 (by omega) (by omega) (by omega) (by omega)];exact ho.w3,by rw[oown _ 4 (by omega) (by omega) (by omega) (by omega)];exact ho.w4⟩
 ·obtain⟨b1,b2,b3,b4⟩:=R.bur u hu hug
  have hne:u.h≠t.h:=fun e=>hg (e▸hug)
  have hx:∀v,v<8→v≠0→nth (bg c t.h zs) (adr c u.h v)=nth zs (adr c u.h v):=fun v hv hv0=>out _ ⟨by have:=aI c u.h v;omega,by have:=aI c u.h v;omega,by have:=aI c u.h v;omega,fun e=>hv0 (ax (by omega) (by omega) e).2,fun x hx=>by
   have:u.h≠x:=by
    rcases hx with rfl|hx
    ·exact hne
    ·exact fun e=>b4 (e▸hx)
   exact⟨fun e=>this (ax (by omega) (by omega) e).1,fun e=>this (ax (by omega) (by omega) e).1⟩⟩
  refine⟨b1,by rw[hx 6 (by omega) (by omega)];exact b2,by rw[hx 7 (by omega) (by omega)];exact b3,fun hin=> ?_⟩
  rcases List.mem_append.1 hin with hin|hin
  ·exact b4 hin
  ·exact hne (List.mem_singleton.1 hin)
end
set_option maxHeartbeats 1000000 in
theorem xS:∀c D (ph:Int),Does c D 21 [.int .i64 ph] 5 (D.nH ph) (.bool (phB ph)):=fun c D ph zs hz R=>by
 cases h:phB ph with
 |true=>exact⟨_,⟨5,by omega,fun p m w hG=>Ba hG ph h⟩,by unfold Wd.nH;rw[if_pos h];exact Mf hz R ph⟩
 |false=>exact⟨zs,⟨0,by omega,fun p m w hG=>Ee hG ph h⟩,by unfold Wd.nH;rw[if_neg (by simp[h])];exact R⟩
set_option maxHeartbeats 1000000 in
theorem AZ:∀c D (x y:Int),Does c D 53 [.int .i64 x,.int .i64 y] 2 (D.yN x y) (.bool (Lc x y)):=fun c D x y zs hz R=>by
 cases h:Lc x y with
 |true=>exact⟨_,⟨2,by omega,fun p m w hG=>Ei hG x y h⟩,by unfold Wd.yN;rw[if_pos h];exact Om hz R x y⟩
 |false=>exact⟨zs,⟨0,by omega,fun p m w hG=>Gb hG x y h⟩,by unfold Wd.yN;rw[if_neg (by simp[h])];exact R⟩
set_option maxHeartbeats 1000000 in
theorem DY:∀c D (r:Int),In64 r→Does c D 69 [.int .i64 r] 5 (D.dye r) (.bool (D.find r).isSome):=fun c D r hr zs hz R=>by
 cases hf:D.find r with
 |none=>exact⟨zs,⟨_,by have:=gB (aB c (prev r) 0);omega,fun p m w hG=>Jt _ (R.reg 10 (by omega) (by omega)) hG R.heap hr (gW R hf)⟩,by rw[show D.dye r=D from bG _ hf];exact R⟩
 |some t=>
  obtain⟨h1,h2,h3,h4,h5⟩:=R.fH hf
  have K:=Qn R hz hf
  subst h4
  refine⟨_,?_,K⟩
  exact⟨5,by omega,fun p m w hG=>FZ (s:=⟨zs,m⟩) (o:=t.ob) _ (R.reg 10 (by omega) (by omega)) R.par hG R.heap h3 (nth zs (adr c t.h 0)) (kC zs t)⟩
set_option maxHeartbeats 1000000 in
theorem xU:∀c D (r:Int),In64 r→Does c D 51 [.int .i64 r] 3 D (.bool (D.black r)):=fun c D r hr zs hz R=>by
 cases hf:D.find r with
 |none=>exact⟨zs,⟨dF (aB c (prev r) 0),by have:=gB (aB c (prev r) 0);omega,fun p m w hG=>by rw[show D.black r=false by unfold Wd.black;rw[hf]];exact uk hG R.heap hr (gW R hf)⟩,R⟩
 |some t=>
  obtain⟨h1,h2,h3,h4,h5⟩:=R.fH hf
  have e:D.black r=decide (uC (nth zs (adr c t.h 0))=D.parity):=by unfold Wd.black;rw[hf,h5.cC]
  rw[e]
  subst h4
  exact⟨zs,⟨3,by omega,fun p m w hG=>jD (s:=⟨zs,m⟩) (o:=t.ob) hG R.heap h3 (nth zs (adr c t.h 0)) (kC zs t) D.parity (R.reg 10 (by omega) (by omega))⟩,R⟩
set_option maxHeartbeats 1000000 in
theorem xV:∀c D (r:Int),In64 r→Does c D 54 [.int .i64 r] 4 (D.paint r) (.bool (D.find r).isSome):=fun c D r hr zs hz R=>by
 cases hf:D.find r with
 |none=>exact⟨zs,⟨_,by have:=gB (aB c (prev r) 0);omega,fun p m w hG=>Ej _ (R.reg 10 (by omega) (by omega)) hG R.heap hr (gW R hf)⟩,by rw[show D.paint r=D from bG _ hf];exact R⟩
 |some t=>
  obtain⟨h1,h2,h3,h4,h5⟩:=R.fH hf
  have K:=DZ R hz hf
  subst h4
  refine⟨_,?_,K⟩
  exact⟨4,by omega,fun p m w hG=>Be (s:=⟨zs,m⟩) (o:=t.ob) _ (R.reg 10 (by omega) (by omega)) R.par hG R.heap h3 (nth zs (adr c t.h 0)) (kC zs t)⟩
set_option maxHeartbeats 1000000 in
theorem xW:∀c D (r:Int),In64 r→Does c D 88 [.int .i64 r] 14 (D.touch r) (.bool (D.toucht r)):=fun c D r hr zs hz R=>by
 have hP:=R.reg 10 (by omega) (by omega)
 have hph:=R.reg 11 (by omega) (by omega)
 by_cases h0:D.phase=0
 ·have e:D.toucht r=false:=by unfold Wd.toucht;cases D.find r<;>simp[h0]
  rw[mK e,e]
  exact⟨zs,⟨1,by omega,fun p m w hG=>ym hG (hph.trans h0)⟩,R⟩
 cases hf:D.find r with
 |none=>
  have e:D.toucht r=false:=by unfold Wd.toucht;rw[hf]
  rw[mK e,e]
  exact⟨zs,⟨_,by have:=gB (aB c (prev r) 0);omega,fun p m w hG=>En _ hph h0 _ hP hG R.heap hr (gW R hf)⟩,R⟩
 |some t=>
  obtain⟨h1,h2,h3,h4,h5⟩:=R.fH hf
  have et:D.toucht r=(!t.mr.dead&& !decide (t.mr.color=D.parity)):=by unfold Wd.toucht;rw[hf];simp[h0]
  cases hd:t.mr.dead with
  |true=>
   have e:D.toucht r=false:=by rw[et,hd];rfl
   rw[mK e,e]
   subst h4
   exact⟨zs,⟨4,by omega,fun p m w hG=>yl (s:=⟨zs,m⟩) (o:=t.ob) _ hph h0 _ hP hG R.heap h3 (nth zs (adr c t.h 0)) (kC zs t) (h5.Kj hd)⟩,R⟩
  |false=>
   have hd0:=h5.OE hd
   by_cases hc:t.mr.color=D.parity
   ·have e:D.toucht r=false:=by rw[et,hd];simp[hc]
    rw[mK e,e]
    subst h4
    exact⟨zs,⟨4,by omega,fun p m w hG=>wU (s:=⟨zs,m⟩) (o:=t.ob) _ hph h0 _ hP hG R.heap h3 (nth zs (adr c t.h 0)) (kC zs t) hd0 (h5.cC.trans hc)⟩,R⟩
   ·have e:D.toucht r=true:=by rw[et,hd];simp[hc]
    have hcn:¬uC (nth zs (adr c t.h 0))=D.parity:=by rw[h5.cC];exact hc
    have K:=DZ R hz hf
    have hlt:=R.hlt (find_live hf).1
    have hmb:hasB (ints D.ring) (r-1)=decide (t.h∈D.ring):=by
     rw[show r-1=((t.h:Nat):Int) by omega,KJ]
    by_cases hin:t.h∈D.ring
    ·have eD:D.touch r=D.paint r:=by
      unfold Wd.touch
      rw[e,hmb,if_pos rfl,if_pos (by simp[hin])]
      rfl
     rw[eD,e]
     subst h4
     refine⟨_,?_,K⟩
     exact⟨6,by omega,fun p m w hG=>Em (s:=⟨zs,m⟩) (o:=t.ob) _ hph h0 _ hP R.par hG R.heap h3 (nth zs (adr c t.h 0)) (kC zs t) hd0 hcn D.ring K.ring hin⟩
    ·have eD:D.touch r={D.paint r with ring:=(D.paint r).ring++[t.h]}:=by
      unfold Wd.touch
      rw[e,hmb,if_pos rfl,if_neg (by simp[hin]),show(r-1).toNat=t.h by omega]
      rfl
     have hng:t.h+1∉D.grave:=fun hg=>by
      have:=(R.bur t (find_live hf).1 hg).1
      rw[hd] at this
      cases this
     have hz1:Wz c (zs.set (adr c t.h 0) (dD (nth zs (adr c t.h 0)) D.parity (uN (nth zs (adr c t.h 0))) (uS (nth zs (adr c t.h 0))) (uD (nth zs (adr c t.h 0))))):=by
      have hok:=mi h1 h2 R.par (bC (nth zs (adr c t.h 0))).2.1 (bC (nth zs (adr c t.h 0))).2.2.1 (bC (nth zs (adr c t.h 0))).2.2.2
      exact hz.set _ hok.2.2.2.2.2.2.2.1 hok.2.2.2.2.2.2.2.2
     have K2:=FT K hz1 (mark_find _ hf) hin hng
     rw[eD,e]
     subst h4
     refine⟨_,?_,K2⟩
     exact⟨14,by omega,fun p m w hG=>Bf (s:=⟨zs,m⟩) (o:=t.ob) _ hph h0 _ hP R.par hG R.heap h3 (nth zs (adr c t.h 0)) (kC zs t) hd0 hcn D.ring K.ring hin⟩
set_option maxHeartbeats 1000000 in
theorem AV:∀c D (r:Int),In64 r→Does c D 50 [.int .i64 r] 2 D (.bool (D.dead r)):=fun c D r hr zs hz R=>by
 cases hf:D.find r with
 |none=>exact⟨zs,⟨dF (aB c (prev r) 0),by have:=gB (aB c (prev r) 0);omega,fun p m w hG=>by rw[show D.dead r=false by unfold Wd.dead;rw[hf]];exact FX hG R.heap hr (gW R hf)⟩,R⟩
 |some t=>
  obtain⟨h1,h2,h3,h4,h5⟩:=R.fH hf
  have e:D.dead r=decide (uD (nth zs (adr c t.h 0))=1):=by unfold Wd.dead;rw[hf,h5.yE]
  rw[e]
  subst h4
  exact⟨zs,⟨2,by omega,fun p m w hG=>Ef (s:=⟨zs,m⟩) (o:=t.ob) hG R.heap h3 (nth zs (adr c t.h 0)) (kC zs t)⟩,R⟩
set_option maxHeartbeats 1000000 in
theorem AY:∀c D (r:Int),In64 r→Does c D 134 [.int .i64 r] 3 (D.kill r) (.bool ((D.find r).isSome&& !D.dead r)):=fun c D r hr zs hz R=>by
 cases hf:D.find r with
 |none=>exact⟨zs,⟨_,by have:=gB (aB c (prev r) 0);omega,fun p m w hG=>Ga hG R.heap hr (gW R hf)⟩,by rw[show D.kill r=D from bG _ hf];exact R⟩
 |some t=>
  obtain⟨h1,h2,h3,h4,h5⟩:=R.fH hf
  have e:D.dead r=t.mr.dead:=by unfold Wd.dead;rw[hf]
  rw[e]
  cases hd:t.mr.dead with
  |false=>
   have K:=Ol R hz hf
   subst h4
   refine⟨_,?_,K⟩
   exact⟨3,by omega,fun p m w hG=>Eh (s:=⟨zs,m⟩) (o:=t.ob) hG R.heap h3 (nth zs (adr c t.h 0)) (kC zs t) (h5.OE hd)⟩
  |true=>
   have eD:D.kill r=D:=by
    obtain⟨i,hi,ht⟩:=jI hf
    unfold Wd.kill Wd.mark Wd.upd
    rw[Bp hi ht,show({t with mr:={t.mr with dead:=true}}:Th)=t by rw[←hd],qY ht]
   rw[eD]
   subst h4
   exact⟨zs,⟨2,by omega,fun p m w hG=>Bc (s:=⟨zs,m⟩) (o:=t.ob) hG R.heap h3 (nth zs (adr c t.h 0)) (kC zs t) (h5.Kj hd)⟩,R⟩
set_option maxHeartbeats 1000000 in
theorem wM:∀c D (r:Int),In64 r→Does c D 121 [.int .i64 r] 4 D (.int .i64 (D.dP r)):=fun c D r hr zs hz R=>by
 cases hf:D.find r with
 |none=>exact⟨zs,⟨dF (aB c (prev r) 0),by have:=gB (aB c (prev r) 0);omega,fun p m w hG=>by rw[show D.dP r=0 by unfold Wd.dP;rw[hf]];exact mM hG R.heap hr (gW R hf)⟩,R⟩
 |some t=>
  obtain⟨h1,h2,h3,h4,h5⟩:=R.fH hf
  obtain⟨k,hk,_,_,h⟩:=sP R hz hf
  subst h4
  exact⟨zs,⟨k,by omega,fun p m w hG=>h p w m hG⟩,R⟩
set_option maxHeartbeats 1000000 in
theorem wL:∀c D (r:Int),In64 r→D.dP r<4294967295→Does c D 181 [.int .i64 r] 9 (D.aW r) (.bool (D.find r).isSome):=fun c D r hr hs zs hz R=>by
 cases hf:D.find r with
 |none=>exact⟨zs,⟨_,by have:=gB (aB c (prev r) 0);omega,fun p m w hG=>Bb _ (R.reg 10 (by omega) (by omega)) hG R.heap hr (gW R hf)⟩,by rw[show D.aW r=D from bG _ hf];exact R⟩
 |some t=>
  obtain⟨h1,h2,h3,h4,h5⟩:=R.fH hf
  obtain⟨k,hk,n0,n1,h⟩:=sP R hz hf
  have K:=Jl R hz hf
  subst h4
  refine⟨_,?_,K⟩
  exact⟨k+5,by omega,fun p m w hG=>yg (s:=⟨zs,m⟩) (o:=t.ob) _ (R.reg 10 (by omega) (by omega)) R.par hG R.heap h3 (nth zs (adr c t.h 0)) (kC zs t) _ k (fun w' m' hG'=>h p w' m' hG') n0 hs⟩
set_option maxHeartbeats 1000000 in
theorem ut:∀c D (r:Int),In64 r→Does c D 188 [.int .i64 r] 9 (D.aC r) (.bool (D.lighter r)):=fun c D r hr zs hz R=>by
 have hP:=R.reg 10 (by omega) (by omega)
 have hph:=R.reg 11 (by omega) (by omega)
 by_cases h12:D.phase=1∨D.phase=2
 ·have h12b:(decide (D.phase=1)||decide (D.phase=2))=true:=by simpa using h12
  cases hf:D.find r with
  |none=>
   have e:D.lighter r=false:=by unfold Wd.lighter Wd.dP;rw[hf];simp
   rw[jB e,e]
   exact⟨zs,⟨_,by have:=gB (aB c (prev r) 0);omega,fun p m w hG=>yh _ hph h12 hG R.heap hr (gW R hf)⟩,R⟩
  |some t=>
   obtain⟨h1,h2,h3,h4,h5⟩:=R.fH hf
   have eb:D.black r=decide (t.mr.color=D.parity):=by unfold Wd.black;rw[hf]
   by_cases hc:t.mr.color=D.parity
   ·have e:D.lighter r=false:=by unfold Wd.lighter;rw[eb];simp[hc]
    rw[jB e,e]
    subst h4
    exact⟨zs,⟨4,by omega,fun p m w hG=>sU (s:=⟨zs,m⟩) (o:=t.ob) _ hph h12 hG R.heap h3 (nth zs (adr c t.h 0)) (kC zs t) _ hP (h5.cC.trans hc)⟩,R⟩
   ·have hcn:¬uC (nth zs (adr c t.h 0))=D.parity:=by rw[h5.cC];exact hc
    obtain⟨k,hk,n0,n1,h⟩:=sP R hz hf
    by_cases hs:D.dP r=0
    ·have e:D.lighter r=false:=by unfold Wd.lighter;rw[hs];simp
     rw[jB e,e]
     subst h4
     exact⟨zs,⟨4+k,by omega,fun p m w hG=>uw (s:=⟨zs,m⟩) (o:=t.ob) _ hph h12 hG R.heap h3 (nth zs (adr c t.h 0)) (kC zs t) _ hP hcn _ k (fun w' m' hG'=>h p w' m' hG') hs⟩,R⟩
    ·have e:D.lighter r=true:=by unfold Wd.lighter;rw[eb,h12b];simp[hc,hs]
     have K:=FR R hz hf hs
     rw[show D.aC r=D.mark r (fun m=>{m with shadow:=m.shadow-1}) by unfold Wd.aC;rw[if_pos e],e]
     subst h4
     refine⟨_,?_,K⟩
     exact⟨5+k,by omega,fun p m w hG=>wT (s:=⟨zs,m⟩) (o:=t.ob) _ hph h12 hG R.heap h3 (nth zs (adr c t.h 0)) (kC zs t) _ hP hcn _ k (fun w' m' hG'=>h p w' m' hG') (by omega) n1⟩
 ·have e:D.lighter r=false:=by unfold Wd.lighter;rw[show(decide (D.phase=1)||decide (D.phase=2))=false by simpa using h12];rfl
  rw[jB e,e]
  exact⟨zs,⟨1,by omega,fun p m w hG=>uu _ hG hph (fun q=>h12 (.inl q)) (fun q=>h12 (.inr q))⟩,R⟩
set_option maxHeartbeats 1000000 in
theorem nk:∀c D (r i:Int),In64 r→Does c D 123 [.int .i64 r,.int .i64 i] 6 D (.bool (D.counted r i)):=fun c D r i hr zs hz R=>by
 have hP:=R.reg 10 (by omega) (by omega)
 cases hf:D.find r with
 |none=>
  rw[show D.counted r i=false by unfold Wd.counted;rw[hf]]
  exact⟨zs,⟨_,by have:=gB (aB c (prev r) 0);omega,fun p m w hG=>yc _ hG R.heap hr (gW R hf)⟩,R⟩
 |some t=>
  obtain⟨h1,h2,h3,h4,h5⟩:=R.fH hf
  have e:D.counted r i=(decide (0≤i)&&(decide (t.mr.count=D.parity)||(decide (D.phase=1)&&decide (D.cursor=r-1)&&decide (i<D.field)))):=by unfold Wd.counted;rw[hf]
  by_cases hi:i<0
  ·rw[show D.counted r i=false by rw[e,show decide (0≤i)=false from decide_eq_false (by omega)];rfl]
   subst h4
   exact⟨zs,⟨2,by omega,fun p m w hG=>wR (s:=⟨zs,m⟩) (o:=t.ob) _ hG R.heap h3 (nth zs (adr c t.h 0)) (kC zs t) hi⟩,R⟩
  ·have hi':decide (0≤i)=true:=decide_eq_true (by omega)
   by_cases hn:t.mr.count=D.parity
   ·rw[show D.counted r i=true by rw[e,hi',decide_eq_true hn];rfl]
    subst h4
    exact⟨zs,⟨3,by omega,fun p m w hG=>wS (s:=⟨zs,m⟩) (o:=t.ob) _ hG R.heap h3 (nth zs (adr c t.h 0)) (kC zs t) _ hP hi (h5.cN.trans hn)⟩,R⟩
   ·have hnn:¬uN (nth zs (adr c t.h 0))=D.parity:=by rw[h5.cN];exact hn
    have e2:D.counted r i=(decide (D.phase=1)&&decide (D.cursor=r-1)&&decide (i<D.field)):=by rw[e,hi',decide_eq_false hn];simp
    have hph:=R.reg 11 (by omega) (by omega)
    have hcu:=R.reg 12 (by omega) (by omega)
    have hfi:=R.reg 13 (by omega) (by omega)
    by_cases hp1:D.phase=1
    ·by_cases hc1:D.cursor=(t.h:Int)
     ·rw[show D.counted r i=decide (i<D.field) by rw[e2,decide_eq_true hp1,decide_eq_true (show D.cursor=r-1 by omega)];simp]
      subst h4
      exact⟨zs,⟨6,by omega,fun p m w hG=>xZ (s:=⟨zs,m⟩) (o:=t.ob) _ hG R.heap h3 (nth zs (adr c t.h 0)) (kC zs t) _ hP hi hnn _ _ _ hph hcu hfi hp1 hc1⟩,R⟩
     ·rw[show D.counted r i=false by rw[e2,decide_eq_false (show ¬D.cursor=r-1 by omega)];simp]
      subst h4
      exact⟨zs,⟨6,by omega,fun p m w hG=>xY (s:=⟨zs,m⟩) (o:=t.ob) _ hG R.heap h3 (nth zs (adr c t.h 0)) (kC zs t) _ hP hi hnn _ _ _ hph hcu hfi hp1 hc1⟩,R⟩
    ·rw[show D.counted r i=false by rw[e2,decide_eq_false hp1];simp]
     subst h4
     exact⟨zs,⟨6,by omega,fun p m w hG=>yf (s:=⟨zs,m⟩) (o:=t.ob) _ hG R.heap h3 (nth zs (adr c t.h 0)) (kC zs t) _ hP hi hnn _ _ _ hph hcu hfi hp1⟩,R⟩
set_option maxHeartbeats 1000000 in
theorem AX:∀c D (r:Int),In64 r→Does c D 137 [.int .i64 r] 4 (D.done r) (.bool (D.find r).isSome):=fun c D r hr zs hz R=>by
 cases hf:D.find r with
 |none=>exact⟨zs,⟨_,by have:=gB (aB c (prev r) 0);omega,fun p m w hG=>FY _ (R.reg 10 (by omega) (by omega)) hG R.heap hr (gW R hf)⟩,by rw[show D.done r=D from bG _ hf];exact R⟩
 |some t=>
  obtain⟨h1,h2,h3,h4,h5⟩:=R.fH hf
  have K:=Oj R hz hf
  subst h4
  refine⟨_,?_,K⟩
  exact⟨4,by omega,fun p m w hG=>Eg (s:=⟨zs,m⟩) (o:=t.ob) _ (R.reg 10 (by omega) (by omega)) R.par hG R.heap h3 (nth zs (adr c t.h 0)) (kC zs t)⟩
theorem tintFns:Gj where
 phase:=fun c D zs hz R=>⟨zs,⟨1,by omega,fun p m w hG=>bQ hG _ (R.reg 11 (by omega) (by omega))⟩,R⟩
 turn:=fun c D=>⟨_,fun zs hz R=>⟨_,⟨2,by omega,fun p m w hG=>Ow hG _ (R.reg 10 (by omega) (by omega)) R.par⟩,Oo hz R⟩⟩
 begin_:=xS
 at_:=fun c D zs hz R=>⟨zs,⟨2,by omega,fun p m w hG=>Hu hG _ _ (R.reg 12 (by omega) (by omega)) (R.reg 13 (by omega) (by omega))⟩,R⟩
 move:=AZ
 dye:=DY
 black:=xU
 paint:=xV
 touch:=xW
 dead:=AV
 shadow:=wM
 aW:=wL
 counted:=nk
 done:=AX
def Wd.lessRing(D:Wd)(h:Nat):Wd:={D with ring:=D.ring.filter (fun b=>b !=h)}
def Wd.setP(D:Wd)(r:Int)(i:Nat)(x:Int):Wd:=D.upd r (fun t=>{t with pt:=t.pt.set i x})
def Wd.fM(D:Wd)(r:Int)(j b:Nat):Wd:={D.upd r (fun t=>{t with lv:=t.lv.set j (-1)}) with clean:=b::D.clean}
def Wd.gJ(D:Wd)(r:Int)(h:Nat):Wd:={D.upd r (fun t=>{t with ended:=true}) with clean:=h::D.clean}
theorem xq{l1 l2:List Nat}{b:Nat}(hn:(l1++b::l2).Nodup):(l1++b::l2).filter (fun x=>x !=b)=l1++l2:=by
 rw[List.nodup_append] at hn
 obtain⟨h1,h2,h3⟩:=hn
 have h4:=List.nodup_cons.1 h2
 rw[List.filter_append,List.filter_cons]
 have e1:l1.filter (fun x=>x !=b)=l1:=List.filter_eq_self.2 (fun x hx=>by simp;exact h3 x hx b (by simp))
 have e2:l2.filter (fun x=>x !=b)=l2:=List.filter_eq_self.2 (fun x hx=>by simp;exact fun e=>h4.1 (e▸hx))
 rw[e1,e2]
 simp
theorem JU{c:Cf}{zs:List Int}{b i:Nat}(h3:i≠3)(h4:i≠4)(h5:i≠5)(hb:i≠gz c b)(hl:nth zs 4≠0→i≠gz c (nth zs 4-1).toNat):nth (iT c 1 b zs) i=nth zs i:=by
 by_cases hlt:i<zs.length
 ·rw[show nth (iT c 1 b zs) i=addN c 1 b zs i from dK _ hlt]
  unfold addN
  rw[if_neg (by omega),if_neg (by omega),if_neg (by omega),if_neg hb,if_neg]
  rintro⟨e1,e2⟩
  exact hl e1 e2
 ·rw[cO (by rw[jh];omega),cO (by omega)]
theorem Ji{c:Cf}{zs:List Int}{b i:Nat}(h3:i≠3)(h4:i≠4)(h5:i≠5)(hb:i≠gz c b):nth (eO c 1 b zs) i=nth zs i:=by
 by_cases hlt:i<zs.length
 ·rw[show nth (eO c 1 b zs) i=takeN c 1 b zs i from dK _ hlt]
  unfold takeN
  rw[if_neg (by omega),if_neg (by omega),if_neg (by omega),if_neg hb]
 ·rw[cO (by rw[eu];omega),cO (by omega)]
section
variable {c:Cf} {D D':Wd} {zs zs':List Int} {t s:Th} {r:Int}
theorem av.uL(R:av c zs D)(hm:c.May){x:Nat}(hx:x∈D.ring):∃u,u∈D.live∧u.h=x:=by
 obtain⟨o,ho,e⟩:=R.heap.nY hm R.ring hx
 obtain⟨u,hu,rfl⟩:=List.mem_map.1 ho
 exact⟨u,hu,e⟩
theorem av.same(R:av c zs D)(hu:t∈D.live)(hv:s∈D.live)(e:t.h=s.h):t=s:=by
 have h1:=R.findIt hu
 have h2:=R.findIt hv
 rw[e] at h1
 rw[h1] at h2
 cases h2
 rfl
theorem wN(R:av c zs D)(hz:Wz c zs)(hf:D.find r=some t)(hn:t.h∈D.ring):av c (aY c t.h zs) (D.lessRing t.h):=by
 have hm:=hz.may
 have hw:=hm.w
 obtain⟨h1,h2,h3,h4,h5⟩:=R.fH hf
 obtain⟨l1,l2,e⟩:=DJ hn
 have hR:=R.ring
 rw[e] at hR
 have eD:(D.lessRing t.h).ring=l1++l2:=by
  show D.ring.filter _=_
  have:=R.ring.nd
  rw[e] at this ⊢
  exact xq this
 obtain⟨K1,K2,K3⟩:=R.heap.NW (o:=t.ob) hR hm hz.len h3
 have hsub:∀x,x∈l1++l2→x∈D.ring∧x≠t.h:=fun x hx=>by
  rw[←eD] at hx
  have:=List.mem_filter.1 (show x∈D.ring.filter (fun b=>b !=t.h) from hx)
  exact⟨this.1,by simpa using this.2⟩
 have hng:t.h+1∉D.grave:=fun hg=>(R.bur t (find_live hf).1 hg).2.2.2 hn
 have out:∀i,zC c (l1++l2) t.h i→nth (aY c t.h zs) i=nth zs i:=fun i hi=>nX hR hz.len hi
 have oreg:∀i,i<24→i≠7→i≠8→i≠9→nth (aY c t.h zs) i=nth zs i:=fun i h24 a7 a8 a9=>out i ⟨a7,a8,a9,by have:=aI c t.h 0;omega,fun x _=>⟨by have:=aI c x 6;omega,by have:=aI c x 7;omega⟩⟩
 have oown:∀b u,u<8→u≠0→u≠6→u≠7→nth (aY c t.h zs) (adr c b u)=nth zs (adr c b u):=fun b u hu a0 a6 a7=>out _ ⟨by have:=aI c b u;omega,by have:=aI c b u;omega,by have:=aI c b u;omega,fun e=>a0 (ax (by omega) (by omega) e).2,fun x _=>⟨fun e=>a6 (ax (by omega) (by omega) e).2,fun e=>a7 (ax (by omega) (by omega) e).2⟩⟩
 have hlt:=R.hlt (find_live hf).1
 have hmk:uG (nth zs (adr c t.h 0))=1:=(R.ring.mrk _ hlt).2 hn
 have otag:∀b,b<c.N→uC (nth (aY c t.h zs) (adr c b 0))=uC (nth zs (adr c b 0))∧uN (nth (aY c t.h zs) (adr c b 0))=uN (nth zs (adr c b 0))∧uS (nth (aY c t.h zs) (adr c b 0))=uS (nth zs (adr c b 0))∧uD (nth (aY c t.h zs) (adr c b 0))=uD (nth zs (adr c b 0)):=fun b hb=>by
  rw[tX hm hz.len hb]
  by_cases e:b=t.h
  ·subst e
   rw[if_pos rfl]
   unfold uG at hmk
   unfold uC uN uS uD
   omega
  ·rw[if_neg e]
   exact⟨rfl,rfl,rfl,rfl⟩
 refine R.frame hm K2 rfl rfl rfl rfl (fun u hu=>⟨u,hu,rfl,rfl,rfl,rfl⟩) (fun u hu=> ?_) (by rw[eD];exact K1) (R.grave.same (fun j j1 j2=>oreg j (by omega) (by omega) (by omega) (by omega)) (fun b _=>oown b 5 (by omega) (by omega) (by omega) (by omega))) (by rw[oreg 6 (by omega) (by omega) (by omega) (by omega)];exact R.r6) (fun j j1 j2=>by rw[oreg j (by omega) (by omega) (by omega) (by omega)];exact R.reg j j1 j2) R.par R.gv (fun u hu hug=> ?_)
 ·have ho:=R.own u hu
  obtain⟨a1,a2,a3,a4⟩:=otag u.h (R.hlt hu)
  exact⟨a1.trans ho.cC,a2.trans ho.cN,a3.trans ho.cS,a4.trans ho.cD,by rw[oown _ 3 (by omega) (by omega) (by omega) (by omega)];exact ho.w3,by rw[oown _ 4 (by omega) (by omega) (by omega) (by omega)];exact ho.w4⟩
 ·obtain⟨b1,b2,b3,b4⟩:=R.bur u hu hug
  have hne:u.h≠t.h:=fun e=>hng (e▸hug)
  have hx:∀v,v<8→v≠0→nth (aY c t.h zs) (adr c u.h v)=nth zs (adr c u.h v):=fun v hv hv0=>out _ ⟨by have:=aI c u.h v;omega,by have:=aI c u.h v;omega,by have:=aI c u.h v;omega,fun e=>hv0 (ax (by omega) (by omega) e).2,fun x hx=>by
   have:u.h≠x:=by
    rcases hx with rfl|hx
    ·exact hne
    ·exact fun e=>b4 (e▸(hsub x hx).1)
   exact⟨fun e=>this (ax (by omega) (by omega) e).1,fun e=>this (ax (by omega) (by omega) e).1⟩⟩
  exact⟨b1,by rw[hx 6 (by omega) (by omega)];exact b2,by rw[hx 7 (by omega) (by omega)];exact b3,fun hin=>by rw[eD] at hin;exact b4 (hsub _ hin).1⟩
theorem av.He(R:av c zs D)(hm:c.May)(hz:zs.length=c.size)(hf:D.find r=some t){v:Nat}(hv:v=6∨v=7){x:Int}{f:Mrk→Mrk}
  (hm':f t.mr=if v=6 then {t.mr with left:=x} else {t.mr with leaves:=x}) (hn:t.h∉D.ring):av c (zs.set (adr c t.h v) x) (D.mark r f):=by
 have hw:=hm.w
 obtain⟨htl,hr⟩:=find_live hf
 have hlt:=R.hlt htl
 have hne:∀a u,u<8→(a≠t.h∨u≠v)→nth (zs.set (adr c t.h v) x) (adr c a u)=nth zs (adr c a u):=fun a u hu hn=>ai (fun e=>by
  have:=ax (c:=c) (by omega) (by omega) e
  rcases hn with hn|hn
  ·exact hn this.1.symm
  ·exact hn this.2.symm) x
 have hself:nth (zs.set (adr c t.h v) x) (adr c t.h v)=x:=aN (by rw[hz];exact fu hlt (by omega)) x
 have hreg:∀r,r<24→nth (zs.set (adr c t.h v) x) r=nth zs r:=fun r hr=>ai (fun e=>by have:=aI c t.h v;omega) x
 have kd:(f t.mr).dead=t.mr.dead:=by rw[hm'];split<;>rfl
 refine R.frame hm ⟨by simp,fun i hi hne'=>ai (fun e=>hne' t.ob (R.obMem htl) v (by omega) (by omega) (by omega) e.symm) x,fun o ho=>by rw[hne o.h 0 (by omega) (.inr (by omega))];exact⟨(R.heap.obs o ho).tok,rfl⟩⟩ rfl rfl rfl (qN f) (fun s hs=>pX R hf hs) (fun s hs=> ?_)
  (R.ring.congr (fun j hj=>hreg j (by omega)) (fun b _=>hne b 0 (by omega) (.inr (by omega))) (fun b hb=>⟨hne b 6 (by omega) (.inl (fun e=>hn (e▸hb))),hne b 7 (by omega) (.inl (fun e=>hn (e▸hb)))⟩)) (R.grave.same (fun j h1 h2=>hreg j (by omega)) (fun b _=>hne b 5 (by omega) (.inr (by omega)))) (by rw[hreg 6 (by omega)];exact R.r6) (fun j h1 h2=>by rw[hreg j (by omega)];exact R.reg j h1 h2) R.par (fun q hq=>zR R f q hq) (fun s hs hg'=> ?_)
 ·have h0:∀b u,u<8→u≠6→u≠7→nth (zs.set (adr c t.h v) x) (adr c b u)=nth zs (adr c b u):=fun b u hu a6 a7=>hne b u hu (.inr (by omega))
  rcases ja R hf hs with rfl|⟨h,hn⟩
  ·have:=R.own t htl
   have e1:(f t.mr).color=t.mr.color:=by rw[hm'];split<;>rfl
   have e2:(f t.mr).count=t.mr.count:=by rw[hm'];split<;>rfl
   have e3:(f t.mr).shade=t.mr.shade:=by rw[hm'];split<;>rfl
   have e4:(f t.mr).refs=t.mr.refs:=by rw[hm'];split<;>rfl
   have e5:(f t.mr).shadow=t.mr.shadow:=by rw[hm'];split<;>rfl
   refine⟨?_,?_,?_,?_,?_,?_⟩<;>simp only[h0 t.h 0 (by omega) (by omega) (by omega),h0 t.h 3 (by omega) (by omega) (by omega),h0 t.h 4 (by omega) (by omega) (by omega),e1,e2,e3,e4,e5,kd]
   ·exact this.cC
   ·exact this.cN
   ·exact this.cS
   ·exact this.cD
   ·exact this.w3
   ·exact this.w4
  ·obtain⟨a1,a2,a3,a4,a5,a6⟩:=R.own s h
   constructor<;>rw[h0 s.h _ (by omega) (by omega) (by omega)]<;>assumption
 ·rcases ja R hf hs with rfl|⟨h,hn'⟩
  ·obtain⟨b1,b2,b3,b4⟩:=R.bur t htl hg'
   refine⟨kd.trans b1,?_,?_,b4⟩
   ·rcases hv with rfl|rfl
    ·rw[if_pos rfl] at hm'
     show nth _ (adr c t.h 6)=(f t.mr).left
     rw[hself,hm']
    ·rw[if_neg (by decide)] at hm'
     show nth _ (adr c t.h 6)=(f t.mr).left
     rw[hne t.h 6 (by omega) (.inr (by omega)),hm']
     exact b2
   ·rcases hv with rfl|rfl
    ·rw[if_pos rfl] at hm'
     show nth _ (adr c t.h 7)=(f t.mr).leaves
     rw[hne t.h 7 (by omega) (.inr (by omega)),hm']
     exact b3
    ·rw[if_neg (by decide)] at hm'
     show nth _ (adr c t.h 7)=(f t.mr).leaves
     rw[hself,hm']
  ·rw[hne s.h 6 (by omega) (.inl hn'),hne s.h 7 (by omega) (.inl hn')]
   exact R.bur s h hg'
theorem av.KI(R:av c zs D)(hm:c.May)(hz:zs.length=c.size)(hf:D.find r=some t)(hd:t.mr.dead=true)(h6:nth zs (adr c t.h 6)=t.mr.left)(h7:nth zs (adr c t.h 7)=t.mr.leaves)(hn:t.h∉D.ring)(hg:t.h+1∉D.grave):av c (iT c 1 t.h zs) {D with grave:=D.grave++[t.h+1]}:=by
 have hw:=hm.w
 obtain⟨htl,hr⟩:=find_live hf
 have hlt:=R.hlt htl
 have hnm:t.h∉D.grave.map (· -1):=fun h=>by
  obtain⟨q,hq,e⟩:=List.mem_map.1 h
  obtain⟨u,hu,e2⟩:=R.gv q hq
  have:t.h+1=q:=by omega
  exact hg (this▸hq)
 have hA:=R.grave.add hm hz (by omega:1<2) hlt hnm
 have eg:(D.grave++[t.h+1]).map (· -1)=D.grave.map (· -1)++[t.h]:=by simp
 have hlast:nth zs 4≠0→∃u,u∈D.live∧(nth zs 4-1).toNat=u.h:=fun h0=>by
  have hr1:nth zs 4=jY (D.grave.map (· -1)):=R.grave.r1
  rw[hr1] at h0
  obtain⟨y,hy,e⟩:=gN (D.grave.map (· -1)) (fun e=>h0 (by rw[e];rfl))
  obtain⟨q,hq,e1⟩:=List.mem_map.1 hy
  obtain⟨u,hu,e2⟩:=R.gv q hq
  refine⟨u,hu,?_⟩
  rw[hr1,e]
  omega
 have out:∀i,i≠3→i≠4→i≠5→(∀u,u∈D.live→i≠adr c u.h 5)→nth (iT c 1 t.h zs) i=nth zs i:=fun i a3 a4 a5 ho=>JU a3 a4 a5 (by rw[gD];exact ho t htl) (fun h0=>by
  obtain⟨u,hu,e⟩:=hlast h0
  rw[e,gD]
  exact ho u hu)
 have hne:∀b u,u<c.W→u≠5→nth (iT c 1 t.h zs) (adr c b u)=nth zs (adr c b u):=fun b u hu h5=>out _ (by have:=aI c b u;omega) (by have:=aI c b u;omega) (by have:=aI c b u;omega) (fun s _ e=>h5 (ax hu (by omega) e).2)
 have hreg:∀r,r<24→r≠3→r≠4→r≠5→nth (iT c 1 t.h zs) r=nth zs r:=fun r hr a3 a4 a5=>out r a3 a4 a5 (fun s _ e=>by have:=aI c s.h 5;omega)
 refine R.frame hm ⟨jh _ _ _ _,fun i hi hne'=>out i (by omega) (by omega) (by omega) (fun s hs=>hne' s.ob (R.obMem hs) 5 (by omega) (by omega) (by omega)),fun o ho=>by rw[hne o.h 0 (by omega) (by omega)];exact⟨(R.heap.obs o ho).tok,rfl⟩⟩ rfl rfl rfl rfl (fun s hs=>⟨s,hs,rfl,rfl,rfl,rfl⟩) (fun s hs=> ?_)
  (R.ring.congr (fun j hj=>hreg j (by omega) (by omega) (by omega) (by omega)) (fun b _=>hne b 0 (by omega) (by omega)) (fun b hb=>⟨hne b 6 (by omega) (by omega),hne b 7 (by omega) (by omega)⟩)) (by rw[eg];exact hA) (by rw[hreg 6 (by omega) (by omega) (by omega) (by omega)];exact R.r6) (fun j h1 h2=>by rw[hreg j (by omega) (by omega) (by omega) (by omega)];exact R.reg j h1 h2) R.par (fun q hq=> ?_) (fun s hs hg'=> ?_)
 ·obtain⟨a1,a2,a3,a4,a5,a6⟩:=R.own s hs
  constructor<;>rw[hne s.h _ (by omega) (by omega)]<;>assumption
 ·rcases List.mem_append.1 hq with hq|hq
  ·exact R.gv q hq
  ·exact⟨t,htl,(List.mem_singleton.1 hq).symm⟩
 ·rw[hne s.h 6 (by omega) (by omega),hne s.h 7 (by omega) (by omega)]
  rcases List.mem_append.1 hg' with h1|h1
  ·exact R.bur s hs h1
  ·have e:s.h=t.h:=by have:=List.mem_singleton.1 h1;omega
   obtain rfl:=R.same hs htl e
   exact⟨hd,h6,h7,hn⟩
theorem av.IA(R:av c zs D)(hm:c.May)(hz:zs.length=c.size){g:Nat}{rest:List Nat}(hg:D.grave=g::rest):av c (eO c 1 (g-1) zs) {D with grave:=rest}:=by
 have hw:=hm.w
 obtain⟨t,htl,e⟩:=R.gv g (by rw[hg];simp)
 have e':g-1=t.h:=by omega
 rw[e']
 have hC:=R.grave
 rw[hg,List.map_cons,e'] at hC
 obtain⟨hT,_⟩:=hC.take hm hz (by omega:1<2)
 have out:∀i,i≠3→i≠4→i≠5→i≠adr c t.h 5→nth (eO c 1 t.h zs) i=nth zs i:=fun i a3 a4 a5 ho=>Ji a3 a4 a5 (by rw[gD];exact ho)
 have hne:∀b u,u<c.W→u≠5→nth (eO c 1 t.h zs) (adr c b u)=nth zs (adr c b u):=fun b u hu h5=>out _ (by have:=aI c b u;omega) (by have:=aI c b u;omega) (by have:=aI c b u;omega) (fun e=>h5 (ax hu (by omega) e).2)
 have hreg:∀r,r<24→r≠3→r≠4→r≠5→nth (eO c 1 t.h zs) r=nth zs r:=fun r hr a3 a4 a5=>out r a3 a4 a5 (fun e=>by have:=aI c t.h 5;omega)
 refine R.frame hm ⟨eu _ _ _ _,fun i hi hne'=>out i (by omega) (by omega) (by omega) (hne' t.ob (R.obMem htl) 5 (by omega) (by omega) (by omega)),fun o ho=>by rw[hne o.h 0 (by omega) (by omega)];exact⟨(R.heap.obs o ho).tok,rfl⟩⟩ rfl rfl rfl rfl (fun s hs=>⟨s,hs,rfl,rfl,rfl,rfl⟩) (fun s hs=> ?_)
  (R.ring.congr (fun j hj=>hreg j (by omega) (by omega) (by omega) (by omega)) (fun b _=>hne b 0 (by omega) (by omega)) (fun b hb=>⟨hne b 6 (by omega) (by omega),hne b 7 (by omega) (by omega)⟩)) hT (by rw[hreg 6 (by omega) (by omega) (by omega) (by omega)];exact R.r6) (fun j h1 h2=>by rw[hreg j (by omega) (by omega) (by omega) (by omega)];exact R.reg j h1 h2) R.par (fun q hq=>R.gv q (by rw[hg];exact List.mem_cons_of_mem _ hq)) (fun s hs hg'=> ?_)
 ·obtain⟨a1,a2,a3,a4,a5,a6⟩:=R.own s hs
  constructor<;>rw[hne s.h _ (by omega) (by omega)]<;>assumption
 ·rw[hne s.h 6 (by omega) (by omega),hne s.h 7 (by omega) (by omega)]
  exact R.bur s hs (by rw[hg];exact List.mem_cons_of_mem _ hg')
theorem av.AJ(R:av c zs D)(hm:c.May)(hz:zs.length=c.size)(x:Int):av c (zs.set 6 x) {D with pending:=x}:=by
 have hs:=hm.size
 have ha:∀b u,nth (zs.set 6 x) (adr c b u)=nth zs (adr c b u):=fun b u=>ai (fun e=>by have:=aI c b u;omega) x
 have hr:∀j,j≠6→nth (zs.set 6 x) j=nth zs j:=fun j hj=>ai (fun e=>hj e.symm) x
 refine R.frame hm ⟨by simp,fun i hi hne=>hr i (by omega),fun o ho'=>by rw[ha];exact⟨(R.heap.obs o ho').tok,rfl⟩⟩ rfl rfl rfl rfl (fun t' ht'=>⟨t',ht',rfl,rfl,rfl,rfl⟩) (fun t' ht'=> ?_) (R.ring.congr (fun j hj=>hr j (by omega)) (fun b _=>ha b 0) (fun b _=>⟨ha b 6,ha b 7⟩)) (R.grave.same (fun j h1 h2=>hr j (by omega)) (fun b _=>ha b 5)) (aN (by rw[hz];omega) x) (fun j h1 h2=>by rw[hr j (by omega)];exact R.reg j h1 h2) R.par R.gv (fun t' ht' hg=>by rw[ha,ha];exact R.bur t' ht' hg)
 obtain⟨a1,a2,a3,a4,a5,a6⟩:=R.own t' ht'
 constructor<;>rw[ha]<;>assumption
end
section
variable {c:Cf} {D D':Wd} {zs zs':List Int} {t s:Th} {r:Int}
theorem mf{g:Th→Th}(hg:∀t,(g t).ended=t.ended):∀{l:List Th},((aM l).map Th.h).Nodup→aP r l=some t→aM (bz r g l)=(aM l).map (fun s=>if s.h=t.h then g s else s)
 |[],_,h=>by simp[aP] at h
 |u::l,hn,h=>by
  unfold aP at h
  unfold bz
  cases hu:u.at r with
  |true=>
   rw[hu] at h
   simp at h
   subst h
   have hue:u.ended=false:=by unfold Th.at at hu;simp at hu;exact hu.1
   rw[az,hue] at hn
   rw[if_pos rfl,az,az,hg,hue]
   simp at hn ⊢
   rw[List.map_congr_left (g:=id)]
   ·simp
   ·intro s hs
    have:=hn.1 s hs
    simp[this]
  |false=>
   rw[hu] at h
   simp at h
   have ht:=find_at h
   have htl:t∈aM l:=bH.2 ⟨ht.1,ht.2.1⟩
   rw[az] at hn
   rw[if_neg (by simp),az,az]
   cases hue:u.ended with
   |true=>
    rw[hue] at hn
    simp at hn ⊢
    exact mf hg hn h
   |false=>
    rw[hue] at hn
    simp at hn ⊢
    refine⟨?_,mf hg hn.2 h⟩
    have:¬u.h=t.h:=fun e=>hn.1 t htl e.symm
    simp[this]
theorem fD{g:Th→Th}(hg:∀t,(g t).ended=true):∀{l:List Th},((aM l).map Th.h).Nodup→aP r l=some t→aM (bz r g l)=(aM l).filter (fun s=>s.h !=t.h)
 |[],_,h=>by simp[aP] at h
 |u::l,hn,h=>by
  unfold aP at h
  unfold bz
  cases hu:u.at r with
  |true=>
   rw[hu] at h
   simp at h
   subst h
   have hue:u.ended=false:=by unfold Th.at at hu;simp at hu;exact hu.1
   rw[az,hue] at hn
   rw[if_pos rfl,az,az,hg,hue]
   simp at hn ⊢
   exact(List.filter_eq_self.2 (fun s hs=>by simpa using hn.1 s hs)).symm
  |false=>
   rw[hu] at h
   simp at h
   have ht:=find_at h
   have htl:t∈aM l:=bH.2 ⟨ht.1,ht.2.1⟩
   rw[az] at hn
   rw[if_neg (by simp),az,az]
   cases hue:u.ended with
   |true=>
    rw[hue] at hn
    simp at hn ⊢
    exact fD hg hn h
   |false=>
    rw[hue] at hn
    simp at hn ⊢
    have:¬u.h=t.h:=fun e=>hn.1 t htl e.symm
    rw[List.filter_cons,if_pos (by simpa using this),fD hg hn.2 h]
theorem Dy(r:Int)(i:Nat)(x:Int):(D.setP r i x).obs=D.obs:=rE (g:=fun t=>{t with pt:=t.pt.set i x}) (fun t=>⟨rfl,by unfold Th.ob;simp⟩) D.ts
theorem zk(R:av c zs D){i:Nat}{x:Int}(hf:D.find r=some t)(hs:s∈(D.setP r i x).live):s={t with pt:=t.pt.set i x}∨(s∈D.live∧s.h≠t.h):=bD R.nodup hf hs
theorem oG{o:Ob}(hm:c.May){i a:Nat}(hi:i<o.f)(ha:aS c o i=some a):∃q:Nat × Nat,bi c o i=some q∧a=adr c q.1 q.2∧q.1∈o.blocks∧1≤q.2∧q.2<c.W∧(q.1=o.h→o.f≤c.W-8→8≤q.2):=by
 unfold aS at ha
 cases hp:bi c o i with
 |none=>rw[hp] at ha;cases ha
 |some q=>
  rw[hp] at ha
  simp at ha
  exact⟨q,rfl,ha.symm,fw hp,fA hm hi hp⟩
theorem av.Qh(R:av c zs D)(hm:c.May)(hz:zs.length=c.size)(hf:D.find r=some t){i a:Nat}(hi:i<t.pt.length)(ha:aS c t.ob i=some a)(x:Int):av c (zs.set a x) (D.setP r i x):=by
 have hw:=hm.w
 obtain⟨htl,hr⟩:=find_live hf
 have hif:i<t.ob.f:=by unfold Th.ob Ob.f;simp;omega
 obtain⟨q,hq,ea,hqm,q1,q2,q3⟩:=oG hm hif ha
 obtain⟨H1,H2⟩:=R.heap.LX hm hz (R.obMem htl) hif ha x
 have ha24:24≤a:=by rw[ea];exact aI c _ _
 have hreg:∀k,k<24→nth (zs.set a x) k=nth zs k:=fun k hk=>ai (by omega) x
 have hhd:∀u,u∈D.live→∀v,v<8→nth (zs.set a x) (adr c u.h v)=nth zs (adr c u.h v):=fun u hu v hv=>ai (R.heap.Cc hm (R.obMem hu) (R.obMem htl) hif ha hv) x
 have htag:∀b,nth (zs.set a x) (adr c b 0)=nth zs (adr c b 0):=fun b=>ai (fun e=>by
  rw[ea] at e
  have:=(ax q2 (by omega) e).2
  omega) x
 have hh:∀s,s∈(D.setP r i x).live→∃u,u∈D.live∧s.h=u.h∧s.mr=u.mr:=fun s hs=>by
  rcases zk R hf hs with rfl|⟨h,_⟩
  ·exact⟨t,htl,rfl,rfl⟩
  ·exact⟨s,h,rfl,rfl⟩
 refine⟨R.n,R.w,by rw[Dy];exact H1,fun s hs=> ?_,fun s hs k a' hk ha'=> ?_,R.ring.congr (fun j hj=>hreg j (by omega)) (fun b _=>htag b) (fun b hb=> ?_),R.grave.congr (hreg _ (by omega)) (hreg _ (by omega)) (hreg _ (by omega)) (fun b hb=> ?_),by rw[hreg 6 (by omega)];exact R.r6,fun k h1 h2=>by rw[hreg k (by omega)];exact R.reg k h1 h2,R.par,fun g hg=> ?_,fun s hs hg=> ?_⟩
 ·obtain⟨u,hu,e1,e2⟩:=hh s hs
  rw[e1,e2]
  obtain⟨a1,a2,a3,a4,a5,a6⟩:=R.own u hu
  constructor<;>rw[hhd u hu _ (by omega)]<;>assumption
 ·rcases zk R hf hs with rfl|⟨h,hne⟩
  ·have eo:Th.ob {t with pt:=t.pt.set i x}=t.ob:=by unfold Th.ob;simp
   rw[eo] at hk ha'
   have h2:=H2 t.ob k (R.obMem htl) hk
   have hold:=R.tF t htl k a' hk ha'
   unfold fK at h2
   rw[ha'] at h2
   simp only at h2
   rw[h2]
   by_cases e:k=i
   ·subst e
    rw[if_pos (by simp)]
    unfold Th.tF
    simp only[List.length_set]
    rw[if_pos hi]
    exact(aN hi x).symm
   ·rw[if_neg (fun h=>e h.2),hold]
    unfold Th.tF
    simp only[List.length_set]
    split
    ·exact(ai (Ne.symm e) x).symm
    ·rfl
  ·have h2:=H2 s.ob k (R.obMem h) hk
   unfold fK at h2
   rw[ha'] at h2
   simp only at h2
   rw[h2,if_neg (fun h=>hne h.1)]
   exact R.tF s h k a' hk ha'
 ·obtain⟨u,hu,rfl⟩:=R.uL hm hb
  exact⟨hhd u hu 6 (by omega),hhd u hu 7 (by omega)⟩
 ·obtain⟨g,hg,e⟩:=List.mem_map.1 hb
  obtain⟨u,hu,e2⟩:=R.gv g hg
  rw[gD,show b=u.h by omega]
  exact hhd u hu 5 (by omega)
 ·obtain⟨u,hu,e⟩:=R.gv g hg
  have h1:u.ob∈(D.setP r i x).obs:=by rw[Dy];exact R.obMem hu
  obtain⟨v,hv,e2⟩:=List.mem_map.1 h1
  have:v.h=u.h:=congrArg Ob.h e2
  exact⟨v,hv,by omega⟩
 ·obtain⟨u,hu,e1,e2⟩:=hh s hs
  have hg':u.h+1∈D.grave:=by rw[←e1];exact hg
  rw[e1,e2,hhd u hu 6 (by omega),hhd u hu 7 (by omega)]
  exact R.bur u hu hg'
theorem av.Ab(R:av c zs D)(htl:t∈D.live){b:Nat}(hb:b+1∈t.ob.lv)(hu:s∈D.live):s.h≠b:=fun e=>by
 have hb':b∈t.ob.blocks:=by unfold Ob.blocks;exact List.mem_cons_of_mem _ (Ob.bA.2 hb)
 have:s.ob=t.ob:=R.heap.own (R.obMem hu) (R.obMem htl) s.ob.fV (by rw[show s.ob.h=b from e];exact hb')
 have h2:t.ob.h=b:=by rw[←this];exact e
 exact(List.nodup_cons.1 (R.heap.ownB (R.obMem htl))).1 (by rw[h2];exact Ob.bA.2 hb)
theorem Cy{l:List Int}{j b:Nat}(h:l[j]? =some (b:Int)):(l.map (fun x=>(x+1).toNat))[j]? =some (b+1):=by
 rw[List.getElem?_map,h]
 simp
theorem BP(R:av c zs D){j b:Nat}(hf:D.find r=some t)(hs:s∈(D.fM r j b).live):s={t with lv:=t.lv.set j (-1)}∨(s∈D.live∧s.h≠t.h):=bD R.nodup hf hs
theorem av.Qi(R:av c zs D)(hm:c.May)(hf:D.find r=some t){j b:Nat}(hj:t.lv[j]? =some (b:Int))(H:ah c zs' (b::D.clean) (sI D.obs t.ob j))
  (hfr:∀i,¬i<3→i≠adr c t.h (8+j)→i≠adr c b 0→i≠adr c b 5→nth zs' i=nth zs i):av c zs' (D.fM r j b):=by
 have hw:=hm.w
 obtain⟨htl,hr⟩:=find_live hf
 have hjl:t.ob.lv[j]? =some (b+1):=Cy hj
 have hbl:b+1∈t.ob.lv:=List.mem_of_getElem? hjl
 have hjlt:j<t.ob.lv.length:=(List.getElem?_eq_some_iff.1 hjl).1
 have hlvW:=(R.heap.obs t.ob (R.obMem htl)).KW hm
 have hbig:¬t.ob.f≤c.W-8:=fun hs=>by
  have:=(R.heap.obs t.ob (R.obMem htl)).small hs hm
  rw[this] at hjlt
  simp at hjlt
 have hbb:b∈t.ob.blocks:=by unfold Ob.blocks;exact List.mem_cons_of_mem _ (Ob.bA.2 hbl)
 have hhd:∀u,u∈D.live→∀v,v<8→nth zs' (adr c u.h v)=nth zs (adr c u.h v):=fun u hu v hv=>hfr _ (by have:=aI c u.h v;omega) (fun e=>by have:=(ax (c:=c) (by omega) (by omega) e).2;omega) (fun e=>R.Ab htl hbl hu (ax (c:=c) (by omega) (by omega) e).1) (fun e=>R.Ab htl hbl hu (ax (c:=c) (by omega) (by omega) e).1)
 have hreg:∀k,3≤k→k<24→nth zs' k=nth zs k:=fun k h3 hk=>hfr k (by omega) (by have:=aI c t.h (8+j);omega) (by have:=aI c b 0;omega) (by have:=aI c b 5;omega)
 have htag:∀x,x≠b→nth zs' (adr c x 0)=nth zs (adr c x 0):=fun x hx=>hfr _ (by have:=aI c x 0;omega) (fun e=>by have:=(ax (c:=c) (by omega) (by omega) e).2;omega) (fun e=>hx (ax (c:=c) (by omega) (by omega) e).1) (fun e=>hx (ax (c:=c) (by omega) (by omega) e).1)
 have hb0:nth zs' (adr c b 0)=0:=H.pl.fr b (by simp)
 have hbr:b∉D.ring:=fun h=>by
  obtain⟨u,hu,e⟩:=R.uL hm h
  exact R.Ab htl hbl hu e
 have hh:∀s,s∈(D.fM r j b).live→∃u,u∈D.live∧s.h=u.h∧s.mr=u.mr:=fun s hs=>by
  rcases BP R hf hs with rfl|⟨h,_⟩
  ·exact⟨t,htl,rfl,rfl⟩
  ·exact⟨s,h,rfl,rfl⟩
 have hlive:(D.fM r j b).live=D.live.map (fun s=>if s.h=t.h then {s with lv:=s.lv.set j (-1)} else s):=mf (g:=fun s=>{s with lv:=s.lv.set j (-1)}) (fun _=>rfl) R.nodup hf
 have hobs:(D.fM r j b).obs=sI D.obs t.ob j:=by
  unfold Wd.obs sI
  rw[hlive,List.map_map,List.map_map]
  refine List.map_congr_left (fun s hs=> ?_)
  show Th.ob (if s.h=t.h then {s with lv:=s.lv.set j (-1)} else s)=if s.h=t.h then mF s.ob j else s.ob
  split
  ·unfold Th.ob mF
   simp[List.map_set]
  ·rfl
 refine⟨R.n,R.w,by rw[hobs];exact H,fun s hs=> ?_,fun s hs k a hk ha=> ?_,⟨by rw[hreg 7 (by omega) (by omega)];exact R.ring.r7,by rw[hreg 8 (by omega) (by omega)];exact R.ring.r8,by rw[hreg 9 (by omega) (by omega)];exact R.ring.r9,R.ring.lt,R.ring.nd,R.ring.seg.congr (fun x hx=> ?_),fun x hx=> ?_,fun x hx=> ?_,fun x hx=> ?_⟩,R.grave.congr (hreg _ (by omega) (by omega)) (hreg _ (by omega) (by omega)) (hreg _ (by omega) (by omega)) (fun x hx=> ?_),by rw[hreg 6 (by omega) (by omega)];exact R.r6,fun k h1 h2=>by rw[hreg k (by omega) (by omega)];exact R.reg k h1 h2,R.par,fun g hg=> ?_,fun s hs hg=> ?_⟩
 ·obtain⟨u,hu,e1,e2⟩:=hh s hs
  rw[e1,e2]
  obtain⟨a1,a2,a3,a4,a5,a6⟩:=R.own u hu
  constructor<;>rw[hhd u hu _ (by omega)]<;>assumption
 ·rcases BP R hf hs with rfl|⟨h,hne⟩
  ·have ef:(Th.ob {t with lv:=t.lv.set j (-1)}).f=t.ob.f:=rfl
   have ep:aS c t.ob k=some a∧∃b':Nat,t.ob.lv[k/(c.W-1)]? =some (b'+1)∧b'≠b∧a=adr c b' (1+k%(c.W-1)):=by
    obtain⟨q,hq,ea,_⟩:=oG hm hk ha
    unfold bi at hq
    rw[if_neg (by rw[ef];exact hbig)] at hq
    have el:(Th.ob {t with lv:=t.lv.set j (-1)}).lv=t.ob.lv.set j 0:=by unfold Th.ob;simp[List.map_set]
    rw[el] at hq
    by_cases e:k/(c.W-1)=j
    ·rw[e,List.getElem?_set_self hjlt] at hq
     simp at hq
    ·rw[List.getElem?_set_ne (Ne.symm e)] at hq
     split at hq
     ·rename_i b' hb'
      cases hq
      refine⟨by unfold aS;rw[iY hbig hb'];simp[ea],b',hb',fun eb=>e ?_,ea⟩
      subst eb
      exact rX (List.nodup_cons.1 (R.heap.ownB (R.obMem htl))).2 hb' hjl
     ·cases hq
   obtain⟨ha',b',hb',hne,ea⟩:=ep
   have hkw:1+k%(c.W-1)<c.W:=by have:=Nat.mod_lt k (show 0<c.W-1 by omega);omega
   have hbt:b'≠t.h:=fun e=>R.Ab htl (List.mem_of_getElem? hb') htl e.symm
   rw[show nth zs' a=nth zs a from hfr a (by rw[ea];have:=aI c b' (1+k%(c.W-1));omega) (fun e=>hbt (ax (c:=c) hkw (by omega) (ea▸e)).1) (fun e=>hne (ax (c:=c) hkw (by omega) (ea▸e)).1) (fun e=>hne (ax (c:=c) hkw (by omega) (ea▸e)).1)]
   exact R.tF t htl k a hk ha'
  ·obtain⟨q,hq,ea,hqm,q1,q2,q3⟩:=oG hm hk ha
   have hx:∀y,y∈t.ob.blocks→q.1≠y:=fun y hy e=>hne (congrArg Ob.h (R.heap.own (R.obMem h) (R.obMem htl) hqm (by rw[e];exact hy)))
   have h1:q.1≠t.h:=hx t.h t.ob.fV
   have h2:q.1≠b:=hx b hbb
   rw[show nth zs' a=nth zs a from hfr a (by rw[ea];have:=aI c q.1 q.2;omega) (fun e=>h1 (ax (c:=c) q2 (by omega) (ea▸e)).1) (fun e=>h2 (ax (c:=c) q2 (by omega) (ea▸e)).1) (fun e=>h2 (ax (c:=c) q2 (by omega) (ea▸e)).1)]
   exact R.tF s h k a hk ha
 ·obtain⟨u,hu,rfl⟩:=R.uL hm hx
  exact⟨hhd u hu 6 (by omega),hhd u hu 7 (by omega)⟩
 ·by_cases e:x=b
  ·rw[e,hb0];exact iQ.1
  ·rw[htag x e];exact R.ring.tok x hx
 ·rw[htag x (fun e=>hbr (e▸hx))];exact R.ring.hd x hx
 ·by_cases e:x=b
  ·subst e
   rw[hb0,iQ.2.1]
   exact⟨fun h=>absurd h (by decide),fun h=>absurd h hbr⟩
  ·rw[htag x e];exact R.ring.mrk x hx
 ·obtain⟨g,hg,e⟩:=List.mem_map.1 hx
  obtain⟨u,hu,e2⟩:=R.gv g hg
  rw[gD,show x=u.h by omega]
  exact hhd u hu 5 (by omega)
 ·obtain⟨u,hu,e⟩:=R.gv g hg
  refine⟨if u.h=t.h then {u with lv:=u.lv.set j (-1)} else u,by rw[hlive];exact List.mem_map.2 ⟨u,hu,rfl⟩,?_⟩
  split<;>exact e
 ·obtain⟨u,hu,e1,e2⟩:=hh s hs
  have hg':u.h+1∈D.grave:=by rw[←e1];exact hg
  rw[e1,e2,hhd u hu 6 (by omega),hhd u hu 7 (by omega)]
  exact R.bur u hu hg'
theorem av.ended(R:av c zs D)(hm:c.May)(hf:D.find r=some t)(hn:t.h∉D.ring)(hg:t.h+1∉D.grave)(H:ah c zs' (t.h::D.clean) (D.obs.filter (fun x=>x.h !=t.ob.h)))
  (hfr:∀i,¬i<3→i≠adr c t.h 0→i≠adr c t.h 5→nth zs' i=nth zs i):av c zs' (D.gJ r t.h):=by
 have hw:=hm.w
 obtain⟨htl,hr⟩:=find_live hf
 have hlive:(D.gJ r t.h).live=D.live.filter (fun s=>s.h !=t.h):=fD (g:=fun s=>{s with ended:=true}) (fun _=>rfl) R.nodup hf
 have hobs:(D.gJ r t.h).obs=D.obs.filter (fun x=>x.h !=t.ob.h):=by
  unfold Wd.obs
  rw[hlive,List.filter_map]
  rfl
 have hmem:∀s,s∈(D.gJ r t.h).live→s∈D.live∧s.h≠t.h:=fun s hs=>by
  rw[hlive] at hs
  have:=List.mem_filter.1 hs
  exact⟨this.1,by simpa using this.2⟩
 have hne:∀b v,v<c.W→b≠t.h→nth zs' (adr c b v)=nth zs (adr c b v):=fun b v hv hb=>hfr _ (by have:=aI c b v;omega) (fun e=>hb (ax (c:=c) hv (by omega) e).1) (fun e=>hb (ax (c:=c) hv (by omega) e).1)
 have hreg:∀k,3≤k→k<24→nth zs' k=nth zs k:=fun k h3 hk=>hfr k (by omega) (by have:=aI c t.h 0;omega) (by have:=aI c t.h 5;omega)
 have h0:nth zs' (adr c t.h 0)=0:=H.pl.fr t.h (by simp)
 have hrne:∀x,x∈D.ring→x≠t.h:=fun x hx e=>hn (e▸hx)
 refine⟨R.n,R.w,by rw[hobs];exact H,fun s hs=> ?_,fun s hs k a hk ha=> ?_,⟨by rw[hreg 7 (by omega) (by omega)];exact R.ring.r7,by rw[hreg 8 (by omega) (by omega)];exact R.ring.r8,by rw[hreg 9 (by omega) (by omega)];exact R.ring.r9,R.ring.lt,R.ring.nd,R.ring.seg.congr (fun x hx=>⟨hne x 6 (by omega) (hrne x hx),hne x 7 (by omega) (hrne x hx)⟩),fun x hx=> ?_,fun x hx=> ?_,fun x hx=> ?_⟩,R.grave.congr (hreg _ (by omega) (by omega)) (hreg _ (by omega) (by omega)) (hreg _ (by omega) (by omega)) (fun x hx=> ?_),by rw[hreg 6 (by omega) (by omega)];exact R.r6,fun k h1 h2=>by rw[hreg k (by omega) (by omega)];exact R.reg k h1 h2,R.par,fun g hg'=> ?_,fun s hs hg'=> ?_⟩
 ·obtain⟨h1,h2⟩:=hmem s hs
  obtain⟨a1,a2,a3,a4,a5,a6⟩:=R.own s h1
  constructor<;>rw[hne s.h _ (by omega) h2]<;>assumption
 ·obtain⟨h1,h2⟩:=hmem s hs
  obtain⟨q,hq,ea,hqm,q1,q2,q3⟩:=oG hm hk ha
  have:q.1≠t.h:=fun e=>h2 (congrArg Ob.h (R.heap.own (R.obMem h1) (R.obMem htl) hqm (by rw[e];exact t.ob.fV)))
  rw[ea,hne _ _ q2 this,←ea]
  exact R.tF s h1 k a hk ha
 ·by_cases e:x=t.h
  ·rw[e,h0];exact iQ.1
  ·rw[hne x 0 (by omega) e];exact R.ring.tok x hx
 ·rw[hne x 0 (by omega) (hrne x hx)];exact R.ring.hd x hx
 ·by_cases e:x=t.h
  ·subst e
   rw[h0,iQ.2.1]
   exact⟨fun h=>absurd h (by decide),fun h=>absurd h hn⟩
  ·rw[hne x 0 (by omega) e];exact R.ring.mrk x hx
 ·obtain⟨g,hg',e⟩:=List.mem_map.1 hx
  obtain⟨u,hu,e2⟩:=R.gv g hg'
  rw[gD]
  refine hne x 5 (by omega) (fun ex=>hg ?_)
  have:t.h+1=g:=by omega
  rw[this];exact hg'
 ·obtain⟨u,hu,e⟩:=R.gv g hg'
  have hne':(u.h !=t.h)=true:=by
   simp
   intro ex
   exact hg (by rw[←ex,e];exact hg')
  exact⟨u,by rw[hlive];exact List.mem_filter.2 ⟨hu,hne'⟩,e⟩
 ·obtain⟨h1,h2⟩:=hmem s hs
  rw[hne s.h 6 (by omega) h2,hne s.h 7 (by omega) h2]
  exact R.bur s h1 hg'
end
end Go.Proofs.YtjmifnljckmimaaGreat.Pk
