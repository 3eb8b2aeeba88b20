/-
  Texts laid together: TintFn4, TintFns, GravRep, GravRep2.
-/
import Derived.Test.YtjmifnljckmimaaGreatTintFnEtc
namespace Go.Proofs.YtjmifnljckmimaaGreat.Pk
open Lib (hid)
open Go.RowKit
set_option linter.unusedVariables false
set_option linter.unusedSimpArgs false
set_option maxRecDepth 100000
section
variable {p:Pl} {c:Cf} {s:St} {pool:List Nat} {os:List Ob} {o:Ob} {r:Int} {w:World}
theorem yf(hG:G w p c s)(hph:nth s.zs 11=0):Calls Tryz.prog 88 #[.pointer (some ⟨p.a,0,none⟩),.int .i64 r] w (GP w p c ⟨s.zs,s.m+1⟩ (.bool false)):=by
 have HG:=hid hG
 have HF:=hid hph
 clear hG hph
 go_enter Tryz.func88,Tryz.ntmps88
 have HT0:Hid (Touch (inG p) w w):=hid (Touch.refl _ _)
 go_wp2_with fail
 refine(bP HG.out _ HF.out).mono ?_
 rintro e wm1 ⟨rfl,hG,hT⟩
 have HG1:=hid hG
 have HT1:Hid (Touch (inG p) _ wm1):=hid (HT0.out.trans hT)
 clear hG hT
 go_wp2_with fail
 go_ret
 exact⟨rfl,HG1.out,HT1.out⟩
theorem DY(ph:Int)(hph:nth s.zs 11=ph)(hp0:¬ph=0)(P:Int)(hP:nth s.zs 10=P)(hG:G w p c s)(H:af c s.zs pool os)(hr:In64 r)(ho:dU os r=none):Calls Tryz.prog 88 #[.pointer (some ⟨p.a,0,none⟩),.int .i64 r] w (GP w p c ⟨s.zs,s.m+(2+dK (ax c (prev r) 0))⟩ (.bool false)):=by
 have hmf:∀(fn:Fn) (first cap:Array Value) (w:World),(Instr.makeFunc fn first cap).run Tryz.prog w=.ok (.func fn first cap) w:=fun _ _ _ _=>rfl
 have HC:=hid (fun(w':World) (m:Nat) (V:Value) (hG':G w' p c ⟨s.zs,m⟩)=>zi V hG' H hr ho)
 have HG:=hid hG
 have HF:=hid hph
 have hpb:=neq_b hp0
 have HP:=hid hP
 clear hP hG H hr ho hph hp0
 go_enter Tryz.func88,Tryz.ntmps88
 have HT0:Hid (Touch (inG p) w w):=hid (Touch.refl _ _)
 go_wp2_with fail
 refine(bP HG.out _ HF.out).mono ?_
 rintro e wm1 ⟨rfl,hG,hT⟩
 have HG1:=hid hG
 have HT1:Hid (Touch (inG p) _ wm1):=hid (HT0.out.trans hT)
 clear hG hT
 go_wp2_with fail
 refine(aT HG1.out P HP.out).mono ?_
 rintro e wm2 ⟨rfl,hG,hT⟩
 have HG2:=hid hG
 have HT2:Hid (Touch (inG p) _ wm2):=hid (HT1.out.trans hT)
 clear hG hT
 have HGa:=hid (HG2.out.alloc (.cells #[.int .i64 P] 3))
 have HTa:=hid (HT2.out.alloc (.cells #[.int .i64 P] 3))
 go_wp2_with fail
 refine(HC.out _ _ _ HGa.out).mono ?_
 rintro e v2 ⟨rfl,hG,hT⟩
 have HG2:=hid hG
 have HT2:=hid (HTa.out.trans hT)
 clear hG hT
 go_wp2_with fail
 go_ret
 exact⟨rfl,HG2.out.fJ rfl (by show s.m+1+1+_=_;simp only[Nat.add_assoc];omega),HT2.out⟩
theorem yc(ph:Int)(hph:nth s.zs 11=ph)(hp0:¬ph=0)(P:Int)(hP:nth s.zs 10=P)(hG:G w p c s)(H:af c s.zs pool os)(ho:o∈os)(x:Int)(hx:nth s.zs (adr c o.h 0)=x)(hd:uD x=1):Calls Tryz.prog 88 #[.pointer (some ⟨p.a,0,none⟩),.int .i64 ((o.h:Int)+1)] w (GP w p c ⟨s.zs,s.m+4⟩ (.bool false)):=by
 have hmf:∀(fn:Fn) (first cap:Array Value) (w:World),(Instr.makeFunc fn first cap).run Tryz.prog w=.ok (.func fn first cap) w:=fun _ _ _ _=>rfl
 have HC:=hid (fun(w':World) (q m:Nat) (hG':G w' p c ⟨s.zs,m⟩) (hq:Blk w' q #[.int .i64 P] 3) (hqo:¬iK p q)=>GI 157 Tryz.call157 q P hG' H ho x hx hq hqo (fun w'' b hq' hne hb'=>xR _ _ _ _ _ _ _ _ _ w'' hq' hne hb' hd))
 have HG:=hid hG
 have HF:=hid hph
 have hpb:=neq_b hp0
 have HP:=hid hP
 clear hP hG H ho hx hph hp0 hd
 go_enter Tryz.func88,Tryz.ntmps88
 have HT0:Hid (Touch (inG p) w w):=hid (Touch.refl _ _)
 go_wp2_with fail
 refine(bP HG.out _ HF.out).mono ?_
 rintro e wm1 ⟨rfl,hG,hT⟩
 have HG1:=hid hG
 have HT1:Hid (Touch (inG p) _ wm1):=hid (HT0.out.trans hT)
 clear hG hT
 go_wp2_with fail
 refine(aT HG1.out P HP.out).mono ?_
 rintro e wm2 ⟨rfl,hG,hT⟩
 have HG2:=hid hG
 have HT2:Hid (Touch (inG p) _ wm2):=hid (HT1.out.trans hT)
 clear hG hT
 have HGa:=hid (HG2.out.alloc (.cells #[.int .i64 P] 3))
 have HTa:=hid (HT2.out.alloc (.cells #[.int .i64 P] 3))
 have HQa:=hid (Blk.new wm2 #[.int .i64 P] 3)
 have HQo:=hid HG2.out.mE
 go_wp2_with fail
 refine(HC.out _ _ _ HGa.out HQa.out HQo.out).mono ?_
 rintro e w2 ⟨rfl,hG,hT⟩
 have HG2:=hid hG
 have HT2:=hid (HTa.out.trans hT)
 clear hG hT
 go_wp2_with fail
 go_ret
 exact⟨rfl,HG2.out,HT2.out⟩
theorem wR(ph:Int)(hph:nth s.zs 11=ph)(hp0:¬ph=0)(P:Int)(hP:nth s.zs 10=P)(hG:G w p c s)(H:af c s.zs pool os)(ho:o∈os)(x:Int)(hx:nth s.zs (adr c o.h 0)=x)(hd:uD x=0)(hc:uC x=P):Calls Tryz.prog 88 #[.pointer (some ⟨p.a,0,none⟩),.int .i64 ((o.h:Int)+1)] w (GP w p c ⟨s.zs,s.m+4⟩ (.bool false)):=by
 have hmf:∀(fn:Fn) (first cap:Array Value) (w:World),(Instr.makeFunc fn first cap).run Tryz.prog w=.ok (.func fn first cap) w:=fun _ _ _ _=>rfl
 have HC:=hid (fun(w':World) (q m:Nat) (hG':G w' p c ⟨s.zs,m⟩) (hq:Blk w' q #[.int .i64 P] 3) (hqo:¬iK p q)=>GI 157 Tryz.call157 q P hG' H ho x hx hq hqo (fun w'' b hq' hne hb'=>wK _ _ _ _ _ _ _ _ _ w'' hq' hne hb' hd hc))
 have HG:=hid hG
 have HF:=hid hph
 have hpb:=neq_b hp0
 have HP:=hid hP
 clear hP hG H ho hx hph hp0 hd hc
 go_enter Tryz.func88,Tryz.ntmps88
 have HT0:Hid (Touch (inG p) w w):=hid (Touch.refl _ _)
 go_wp2_with fail
 refine(bP HG.out _ HF.out).mono ?_
 rintro e wm1 ⟨rfl,hG,hT⟩
 have HG1:=hid hG
 have HT1:Hid (Touch (inG p) _ wm1):=hid (HT0.out.trans hT)
 clear hG hT
 go_wp2_with fail
 refine(aT HG1.out P HP.out).mono ?_
 rintro e wm2 ⟨rfl,hG,hT⟩
 have HG2:=hid hG
 have HT2:Hid (Touch (inG p) _ wm2):=hid (HT1.out.trans hT)
 clear hG hT
 have HGa:=hid (HG2.out.alloc (.cells #[.int .i64 P] 3))
 have HTa:=hid (HT2.out.alloc (.cells #[.int .i64 P] 3))
 have HQa:=hid (Blk.new wm2 #[.int .i64 P] 3)
 have HQo:=hid HG2.out.mE
 go_wp2_with fail
 refine(HC.out _ _ _ HGa.out HQa.out HQo.out).mono ?_
 rintro e w2 ⟨rfl,hG,hT⟩
 have HG2:=hid hG
 have HT2:=hid (HTa.out.trans hT)
 clear hG hT
 go_wp2_with fail
 go_ret
 exact⟨rfl,HG2.out,HT2.out⟩
theorem DX(ph:Int)(hph:nth s.zs 11=ph)(hp0:¬ph=0)(P:Int)(hP:nth s.zs 10=P)(h01:P=0∨P=1)(hG:G w p c s)(H:af c s.zs pool os)(ho:o∈os)(x:Int)(hx:nth s.zs (adr c o.h 0)=x)(hd:uD x=0)(hc:¬uC x=P)(l:List Nat)(hR:RingAt c (s.zs.set (adr c o.h 0) (dB x P (uN x) (uS x) (uD x))) l)(hl:o.h∈l):Calls Tryz.prog 88 #[.pointer (some ⟨p.a,0,none⟩),.int .i64 ((o.h:Int)+1)] w (GP w p c ⟨s.zs.set (adr c o.h 0) (dB x P (uN x) (uS x) (uD x)),s.m+6⟩ (.bool true)):=by
 have hmf:∀(fn:Fn) (first cap:Array Value) (w:World),(Instr.makeFunc fn first cap).run Tryz.prog w=.ok (.func fn first cap) w:=fun _ _ _ _=>rfl
 have HC:=hid (fun(w':World) (q m:Nat) (hG':G w' p c ⟨s.zs,m⟩) (hq:Blk w' q #[.int .i64 P] 3) (hqo:¬iK p q)=>sI 157 Tryz.call157 q P hG' H ho x hx hq hqo P (uN x) (uS x) (uD x) h01 (bv x).2.1 (bv x).2.2.1 (bv x).2.2.2 (fun w'' b hq' hne hb'=>DD _ _ _ _ _ _ _ _ _ w'' hq' hne hb' hd hc))
 have hA:=H.obs o ho
 have hW:=hG.may.w
 have HB:=hid hA.hlt
 have HV:Hid (4<c.W):=hid (by omega)
 have e1:=bQ hG.may hA.hlt
 clear hA hW
 have hA:=H.obs o ho
 have hmk:=(hR.mrk o.h hA.hlt).2 hl
 have htk:=hA.tok
 have hhd:=hA.head
 rw[hx] at htk hhd
 have hok:=mD htk hhd h01 (bv x).2.1 (bv x).2.2.1 (bv x).2.2.2
 have hadr:adr c o.h 0<s.zs.length:=by rw[hG.len];exact dX hA.hlt (by have:=hG.may.w;omega)
 have hset:nth (s.zs.set (adr c o.h 0) (dB x P (uN x) (uS x) (uD x))) (adr c o.h 0)=dB x P (uN x) (uS x) (uD x):=aA hadr _
 have HHd:Hid (bg (nth (s.zs.set (adr c o.h 0) (dB x P (uN x) (uS x) (uD x))) (adr c o.h 0))):=hid (by rw[hset];unfold bg at *;rw[hok.2.1];exact hhd)
 have HTg:Hid (mP c (s.zs.set (adr c o.h 0) (dB x P (uN x) (uS x) (uD x))) (o.h:Int)=dB x P (uN x) (uS x) (uD x)):=hid (by rw[oP hG.may hA.hlt];exact hset)
 have HRg:=hid hR
 have HLn:=hid hl
 have HMk:Hid (jV (dB x P (uN x) (uS x) (uD x))=false∨jV (dB x P (uN x) (uS x) (uD x))=true∧tH (dB x P (uN x) (uS x) (uD x))=true):=hid (.inr ⟨lg (by unfold bg at *;rw[hok.2.1];exact hhd),decide_eq_true (by rw[←hset];exact hmk)⟩)
 have HW:Hid (dK (ax c (o.h:Int) 0)=1):=hid (by rw[show ax c (o.h:Int) 0=some (adr c o.h 0) from fP hA.hlt (v:=0) (by have:=hG.may.w;omega)];rfl)
 have HG:=hid hG
 have HF:=hid hph
 have hpb:=neq_b hp0
 have HP:=hid hP
 clear hP hG H ho hx h01 hph hp0 hd hc hl hR hA hmk htk hhd hok hset hadr
 go_enter Tryz.func88,Tryz.ntmps88
 have HT0:Hid (Touch (inG p) w w):=hid (Touch.refl _ _)
 go_wp2_with fail
 refine(bP HG.out _ HF.out).mono ?_
 rintro e wm1 ⟨rfl,hG,hT⟩
 have HG1:=hid hG
 have HT1:Hid (Touch (inG p) _ wm1):=hid (HT0.out.trans hT)
 clear hG hT
 go_wp2_with fail
 refine(aT HG1.out P HP.out).mono ?_
 rintro e wm2 ⟨rfl,hG,hT⟩
 have HG2:=hid hG
 have HT2:Hid (Touch (inG p) _ wm2):=hid (HT1.out.trans hT)
 clear hG hT
 have HGa:=hid (HG2.out.alloc (.cells #[.int .i64 P] 3))
 have HTa:=hid (HT2.out.alloc (.cells #[.int .i64 P] 3))
 have HQa:=hid (Blk.new wm2 #[.int .i64 P] 3)
 have HQo:=hid HG2.out.mE
 go_wp2_with fail
 refine(HC.out _ _ _ HGa.out HQa.out HQo.out).mono ?_
 rintro e w2 ⟨rfl,hG,hT⟩
 have HG2:=hid hG
 have HT2:=hid (HTa.out.trans hT)
 clear hG hT
 go_wp2_with fail
 refine(II p c _ (o.h:Int) _ _ HG2.out HTg.out HMk.out).mono ?_
 rintro e wm3 ⟨rfl,hG,hT⟩
 have HG3:=hid hG
 have HT3:Hid (Touch (inG p) _ wm3):=hid (HT2.out.trans hT)
 clear hG hT
 go_wp2_with fail
 go_ret
 exact⟨rfl,HG3.out.fJ rfl (by show s.m+1+4+dK (ax c (o.h:Int) 0)=s.m+6;rw[HW.out]),HT3.out⟩
theorem AO(ph:Int)(hph:nth s.zs 11=ph)(hp0:¬ph=0)(P:Int)(hP:nth s.zs 10=P)(h01:P=0∨P=1)(hG:G w p c s)(H:af c s.zs pool os)(ho:o∈os)(x:Int)(hx:nth s.zs (adr c o.h 0)=x)(hd:uD x=0)(hc:¬uC x=P)(l:List Nat)(hR:RingAt c (s.zs.set (adr c o.h 0) (dB x P (uN x) (uS x) (uD x))) l)(hl:o.h∉l):Calls Tryz.prog 88 #[.pointer (some ⟨p.a,0,none⟩),.int .i64 ((o.h:Int)+1)] w (GP w p c ⟨aS c o.h (s.zs.set (adr c o.h 0) (dB x P (uN x) (uS x) (uD x))),s.m+14⟩ (.bool true)):=by
 have hmf:∀(fn:Fn) (first cap:Array Value) (w:World),(Instr.makeFunc fn first cap).run Tryz.prog w=.ok (.func fn first cap) w:=fun _ _ _ _=>rfl
 have HC:=hid (fun(w':World) (q m:Nat) (hG':G w' p c ⟨s.zs,m⟩) (hq:Blk w' q #[.int .i64 P] 3) (hqo:¬iK p q)=>sI 157 Tryz.call157 q P hG' H ho x hx hq hqo P (uN x) (uS x) (uD x) h01 (bv x).2.1 (bv x).2.2.1 (bv x).2.2.2 (fun w'' b hq' hne hb'=>DD _ _ _ _ _ _ _ _ _ w'' hq' hne hb' hd hc))
 have hA:=H.obs o ho
 have hW:=hG.may.w
 have HB:=hid hA.hlt
 have HV:Hid (4<c.W):=hid (by omega)
 have e1:=bQ hG.may hA.hlt
 clear hA hW
 have hA:=H.obs o ho
 have hmk:=(hR.mrk o.h hA.hlt).1
 have htk:=hA.tok
 have hhd:=hA.head
 rw[hx] at htk hhd
 have hok:=mD htk hhd h01 (bv x).2.1 (bv x).2.2.1 (bv x).2.2.2
 have hadr:adr c o.h 0<s.zs.length:=by rw[hG.len];exact dX hA.hlt (by have:=hG.may.w;omega)
 have hset:nth (s.zs.set (adr c o.h 0) (dB x P (uN x) (uS x) (uD x))) (adr c o.h 0)=dB x P (uN x) (uS x) (uD x):=aA hadr _
 have HHd:Hid (bg (nth (s.zs.set (adr c o.h 0) (dB x P (uN x) (uS x) (uD x))) (adr c o.h 0))):=hid (by rw[hset];unfold bg at *;rw[hok.2.1];exact hhd)
 have HTg:Hid (mP c (s.zs.set (adr c o.h 0) (dB x P (uN x) (uS x) (uD x))) (o.h:Int)=dB x P (uN x) (uS x) (uD x)):=hid (by rw[oP hG.may hA.hlt];exact hset)
 have HRg:=hid hR
 have HLn:=hid hl
 have HG:=hid hG
 have HF:=hid hph
 have hpb:=neq_b hp0
 have HP:=hid hP
 clear hP hG H ho hx h01 hph hp0 hd hc hl hR hA hmk htk hhd hok hset hadr
 go_enter Tryz.func88,Tryz.ntmps88
 have HT0:Hid (Touch (inG p) w w):=hid (Touch.refl _ _)
 go_wp2_with fail
 refine(bP HG.out _ HF.out).mono ?_
 rintro e wm1 ⟨rfl,hG,hT⟩
 have HG1:=hid hG
 have HT1:Hid (Touch (inG p) _ wm1):=hid (HT0.out.trans hT)
 clear hG hT
 go_wp2_with fail
 refine(aT HG1.out P HP.out).mono ?_
 rintro e wm2 ⟨rfl,hG,hT⟩
 have HG2:=hid hG
 have HT2:Hid (Touch (inG p) _ wm2):=hid (HT1.out.trans hT)
 clear hG hT
 have HGa:=hid (HG2.out.alloc (.cells #[.int .i64 P] 3))
 have HTa:=hid (HT2.out.alloc (.cells #[.int .i64 P] 3))
 have HQa:=hid (Blk.new wm2 #[.int .i64 P] 3)
 have HQo:=hid HG2.out.mE
 go_wp2_with fail
 refine(HC.out _ _ _ HGa.out HQa.out HQo.out).mono ?_
 rintro e w2 ⟨rfl,hG,hT⟩
 have HG2:=hid hG
 have HT2:=hid (HTa.out.trans hT)
 clear hG hT
 go_wp2_with fail
 refine(Fb p c _ o.h l _ HG2.out HRg.out HB.out HLn.out HHd.out).mono ?_
 rintro e wm3 ⟨rfl,hG,hT⟩
 have HG3:=hid hG
 have HT3:Hid (Touch (inG p) _ wm3):=hid (HT2.out.trans hT)
 clear hG hT
 go_wp2_with fail
 go_ret
 exact⟨rfl,HG3.out.fJ rfl (by show s.m+1+4+9=s.m+14;omega),HT3.out⟩
theorem AC(P:Int)(hP:nth s.zs 10=P)(hG:G w p c s)(H:af c s.zs pool os)(hr:In64 r)(ho:dU os r=none):Calls Tryz.prog 181 #[.pointer (some ⟨p.a,0,none⟩),.int .i64 r] w (GP w p c ⟨s.zs,s.m+(2*dK (ax c (prev r) 0)+1)⟩ (.bool false)):=by
 have hmf:∀(fn:Fn) (first cap:Array Value) (w:World),(Instr.makeFunc fn first cap).run Tryz.prog w=.ok (.func fn first cap) w:=fun _ _ _ _=>rfl
 have HC:=hid (fun(w':World) (m:Nat) (V:Value) (hG':G w' p c ⟨s.zs,m⟩)=>zi V hG' H hr ho)
 have HS:=hid (mV hG H hr ho)
 have HP:=hid hP
 have HG:=hid hG
 clear hP hG H hr ho
 go_enter Tryz.func181,Tryz.ntmps181
 have HT0:Hid (Touch (inG p) w w):=hid (Touch.refl _ _)
 go_wp2_with fail
 refine(HS.out).mono ?_
 rintro e wm1 ⟨rfl,hG,hT⟩
 have HG1:=hid hG
 have HT1:Hid (Touch (inG p) _ wm1):=hid (HT0.out.trans hT)
 clear hG hT
 go_wp2_with fail
 refine(aT HG1.out P HP.out).mono ?_
 rintro e wm2 ⟨rfl,hG,hT⟩
 have HG2:=hid hG
 have HT2:Hid (Touch (inG p) _ wm2):=hid (HT1.out.trans hT)
 clear hG hT
 have HGa:=hid (HG2.out.alloc (.cells #[.int .i64 P] 3))
 have HTa:=hid (HT2.out.alloc (.cells #[.int .i64 P] 3))
 go_wp2_with fail
 refine(HC.out _ _ _ HGa.out).mono ?_
 rintro e v2 ⟨rfl,hG,hT⟩
 have HG2:=hid hG
 have HT2:=hid (HTa.out.trans hT)
 clear hG hT
 go_wp2_with fail
 go_ret
 exact⟨rfl,HG2.out.fJ rfl (by show s.m+_+1+_=_;omega),HT2.out⟩
theorem xX(P:Int)(hP:nth s.zs 10=P)(h01:P=0∨P=1)(hG:G w p c s)(H:af c s.zs pool os)(ho:o∈os)(x:Int)(hx:nth s.zs (adr c o.h 0)=x)(n:Int)(k:Nat)(hSh:∀(w':World) (m:Nat),G w' p c ⟨s.zs,m⟩→Calls Tryz.prog 121 #[.pointer (some ⟨p.a,0,none⟩),.int .i64 ((o.h:Int)+1)] w' (GP w' p c ⟨s.zs,m+k⟩ (.int .i64 n)))(hn0:0≤n)(hn1:n<4294967295):Calls Tryz.prog 181 #[.pointer (some ⟨p.a,0,none⟩),.int .i64 ((o.h:Int)+1)] w (GP w p c ⟨(s.zs.set (adr c o.h 0) (dB x (uC x) (uN x) P (uD x))).set (adr c o.h 4) (n+1),s.m+(k+5)⟩ (.bool true)):=by
 have hmf:∀(fn:Fn) (first cap:Array Value) (w:World),(Instr.makeFunc fn first cap).run Tryz.prog w=.ok (.func fn first cap) w:=fun _ _ _ _=>rfl
 have HC:=hid (fun(w':World) (q m:Nat) (hG':G w' p c ⟨s.zs,m⟩) (hq:Blk w' q #[.int .i64 P] 3) (hqo:¬iK p q)=>sI 214 Tryz.call214 q P hG' H ho x hx hq hqo (uC x) (uN x) P (uD x) (bv x).1 (bv x).2.1 h01 (bv x).2.2.2 (fun w'' b hq' hne hb'=>Ja _ _ _ _ _ _ _ _ _ w'' hq' hne hb'))
 have hA:=H.obs o ho
 have hW:=hG.may.w
 have HB:=hid hA.hlt
 have HV:Hid (4<c.W):=hid (by omega)
 have e1:=bQ hG.may hA.hlt
 clear hA hW
 have HS:=hid hSh
 have HP:=hid hP
 have HG:=hid hG
 have hne:(n==4294967295)=false:=neq_b (by omega)
 have hw1:IntKind.i64.wrap (n+1)=n+1:=IntWalk.i64_in _ (by omega)
 have hw2:IntKind.u32.wrap (n+1)=n+1:=IntWalk.u32_in _ (by omega)
 have HN0:Hid (0≤n+1):=hid (by omega)
 have HN1:Hid (n+1≤4294967295):=hid (by omega)
 clear hP hG H ho hx h01 hSh hn0 hn1
 go_enter Tryz.func181,Tryz.ntmps181
 have HT0:Hid (Touch (inG p) w w):=hid (Touch.refl _ _)
 go_wp2_with fail
 refine(HS.out _ _ HG.out).mono ?_
 rintro e wm1 ⟨rfl,hG,hT⟩
 have HG1:=hid hG
 have HT1:Hid (Touch (inG p) _ wm1):=hid (HT0.out.trans hT)
 clear hG hT
 go_wp2_with fail
 refine(aT HG1.out P HP.out).mono ?_
 rintro e wm2 ⟨rfl,hG,hT⟩
 have HG2:=hid hG
 have HT2:Hid (Touch (inG p) _ wm2):=hid (HT1.out.trans hT)
 clear hG hT
 have HGa:=hid (HG2.out.alloc (.cells #[.int .i64 P] 3))
 have HTa:=hid (HT2.out.alloc (.cells #[.int .i64 P] 3))
 have HQa:=hid (Blk.new wm2 #[.int .i64 P] 3)
 have HQo:=hid HG2.out.mE
 go_wp2_with fail
 refine(HC.out _ _ _ HGa.out HQa.out HQo.out).mono ?_
 rintro e w2 ⟨rfl,hG,hT⟩
 have HG2:=hid hG
 have HT2:=hid (HTa.out.trans hT)
 clear hG hT
 go_wp2_with fail
 refine(aG p c _ o.h 4 _ _ (n+1) _ HG2.out HB.out HV.out rfl rfl HN0.out HN1.out).mono ?_
 rintro e wm3 ⟨rfl,hG,hT⟩
 have HG3:=hid hG
 have HT3:Hid (Touch (inG p) _ wm3):=hid (HT2.out.trans hT)
 clear hG hT
 go_wp2_with fail
 go_ret
 exact⟨rfl,HG3.out.fJ rfl (by show s.m+k+4+1=_;omega),HT3.out⟩
theorem uj(ph:Int)(hG:G w p c s)(hph:nth s.zs 11=ph)(h1:¬ph=1)(h2:¬ph=2):Calls Tryz.prog 188 #[.pointer (some ⟨p.a,0,none⟩),.int .i64 r] w (GP w p c ⟨s.zs,s.m+1⟩ (.bool false)):=by
 have HG:=hid hG
 have HF:=hid hph
 have n1:(ph !=1)=true:=by simp[h1]
 have n2:(ph !=2)=true:=by simp[h2]
 clear hG hph h1 h2
 go_enter Tryz.func188,Tryz.ntmps188
 have HT0:Hid (Touch (inG p) w w):=hid (Touch.refl _ _)
 go_wp2_with fail
 refine(bP HG.out _ HF.out).mono ?_
 rintro e wm1 ⟨rfl,hG,hT⟩
 have HG1:=hid hG
 have HT1:Hid (Touch (inG p) _ wm1):=hid (HT0.out.trans hT)
 clear hG hT
 go_wp2_with fail
 go_ret
 exact⟨rfl,HG1.out,HT1.out⟩
theorem xY(ph:Int)(hph:nth s.zs 11=ph)(h12:ph=1∨ph=2)(hG:G w p c s)(H:af c s.zs pool os)(hr:In64 r)(ho:dU os r=none):Calls Tryz.prog 188 #[.pointer (some ⟨p.a,0,none⟩),.int .i64 r] w (GP w p c ⟨s.zs,s.m+(2*dK (ax c (prev r) 0)+1)⟩ (.bool false)):=by
 have HS1:=hid (fun(w':World) (m:Nat) (hG':G w' p c ⟨s.zs,m⟩)=>tY hG' H hr ho)
 have HS2:=hid (fun(w':World) (m:Nat) (hG':G w' p c ⟨s.zs,m⟩)=>mV hG' H hr ho)
 have HG:=hid hG
 have HF:=hid hph
 clear hG hph H ho
 rcases h12 with rfl|rfl
 ·go_enter Tryz.func188,Tryz.ntmps188
  have HT0:Hid (Touch (inG p) w w):=hid (Touch.refl _ _)
  go_wp2_with fail
  refine(bP HG.out _ HF.out).mono ?_
  rintro e wm1 ⟨rfl,hG,hT⟩
  have HG1:=hid hG
  have HT1:Hid (Touch (inG p) _ wm1):=hid (HT0.out.trans hT)
  clear hG hT
  go_wp2_with fail
  refine(HS1.out _ _ HG1.out).mono ?_
  rintro e wm2 ⟨rfl,hG,hT⟩
  have HG2:=hid hG
  have HT2:Hid (Touch (inG p) _ wm2):=hid (HT1.out.trans hT)
  clear hG hT
  go_wp2_with fail
  refine(HS2.out _ _ HG2.out).mono ?_
  rintro e wm3 ⟨rfl,hG,hT⟩
  have HG3:=hid hG
  have HT3:Hid (Touch (inG p) _ wm3):=hid (HT2.out.trans hT)
  clear hG hT
  go_wp2_with fail
  go_ret
  exact⟨rfl,HG3.out.fJ rfl (by show s.m+1+_+_=_;omega),HT3.out⟩
 ·go_enter Tryz.func188,Tryz.ntmps188
  have HT0:Hid (Touch (inG p) w w):=hid (Touch.refl _ _)
  go_wp2_with fail
  refine(bP HG.out _ HF.out).mono ?_
  rintro e wm1 ⟨rfl,hG,hT⟩
  have HG1:=hid hG
  have HT1:Hid (Touch (inG p) _ wm1):=hid (HT0.out.trans hT)
  clear hG hT
  go_wp2_with fail
  refine(HS1.out _ _ HG1.out).mono ?_
  rintro e wm2 ⟨rfl,hG,hT⟩
  have HG2:=hid hG
  have HT2:Hid (Touch (inG p) _ wm2):=hid (HT1.out.trans hT)
  clear hG hT
  go_wp2_with fail
  refine(HS2.out _ _ HG2.out).mono ?_
  rintro e wm3 ⟨rfl,hG,hT⟩
  have HG3:=hid hG
  have HT3:Hid (Touch (inG p) _ wm3):=hid (HT2.out.trans hT)
  clear hG hT
  go_wp2_with fail
  go_ret
  exact⟨rfl,HG3.out.fJ rfl (by show s.m+1+_+_=_;omega),HT3.out⟩
theorem sM(ph:Int)(hph:nth s.zs 11=ph)(h12:ph=1∨ph=2)(hG:G w p c s)(H:af c s.zs pool os)(ho:o∈os)(x:Int)(hx:nth s.zs (adr c o.h 0)=x)(P:Int)(hP:nth s.zs 10=P)(hc:uC x=P):Calls Tryz.prog 188 #[.pointer (some ⟨p.a,0,none⟩),.int .i64 ((o.h:Int)+1)] w (GP w p c ⟨s.zs,s.m+4⟩ (.bool false)):=by
 have HS1:=hid (fun(w':World) (m:Nat) (hG':G w' p c ⟨s.zs,m⟩)=>jF hG' H ho x hx P hP)
 have HD:Hid (decide (uC x=P)=true):=hid (decide_eq_true hc)
 clear hx hP hc
 have HG:=hid hG
 have HF:=hid hph
 clear hG hph H ho
 rcases h12 with rfl|rfl
 ·go_enter Tryz.func188,Tryz.ntmps188
  have HT0:Hid (Touch (inG p) w w):=hid (Touch.refl _ _)
  go_wp2_with fail
  refine(bP HG.out _ HF.out).mono ?_
  rintro e wm1 ⟨rfl,hG,hT⟩
  have HG1:=hid hG
  have HT1:Hid (Touch (inG p) _ wm1):=hid (HT0.out.trans hT)
  clear hG hT
  go_wp2_with fail
  refine(HS1.out _ _ HG1.out).mono ?_
  rw[HD.out]
  rintro e wm2 ⟨rfl,hG,hT⟩
  have HG2:=hid hG
  have HT2:Hid (Touch (inG p) _ wm2):=hid (HT1.out.trans hT)
  clear hG hT
  go_wp2_with fail
  go_ret
  exact⟨rfl,HG2.out,HT2.out⟩
 ·go_enter Tryz.func188,Tryz.ntmps188
  have HT0:Hid (Touch (inG p) w w):=hid (Touch.refl _ _)
  go_wp2_with fail
  refine(bP HG.out _ HF.out).mono ?_
  rintro e wm1 ⟨rfl,hG,hT⟩
  have HG1:=hid hG
  have HT1:Hid (Touch (inG p) _ wm1):=hid (HT0.out.trans hT)
  clear hG hT
  go_wp2_with fail
  refine(HS1.out _ _ HG1.out).mono ?_
  rw[HD.out]
  rintro e wm2 ⟨rfl,hG,hT⟩
  have HG2:=hid hG
  have HT2:Hid (Touch (inG p) _ wm2):=hid (HT1.out.trans hT)
  clear hG hT
  go_wp2_with fail
  go_ret
  exact⟨rfl,HG2.out,HT2.out⟩
theorem uk(ph:Int)(hph:nth s.zs 11=ph)(h12:ph=1∨ph=2)(hG:G w p c s)(H:af c s.zs pool os)(ho:o∈os)(x:Int)(hx:nth s.zs (adr c o.h 0)=x)(P:Int)(hP:nth s.zs 10=P)(hc:¬uC x=P)(n:Int)(k:Nat)(hSh:∀(w':World) (m:Nat),G w' p c ⟨s.zs,m⟩→Calls Tryz.prog 121 #[.pointer (some ⟨p.a,0,none⟩),.int .i64 ((o.h:Int)+1)] w' (GP w' p c ⟨s.zs,m+k⟩ (.int .i64 n)))(hn:n=0):Calls Tryz.prog 188 #[.pointer (some ⟨p.a,0,none⟩),.int .i64 ((o.h:Int)+1)] w (GP w p c ⟨s.zs,s.m+(4+k)⟩ (.bool false)):=by
 have HS1:=hid (fun(w':World) (m:Nat) (hG':G w' p c ⟨s.zs,m⟩)=>jF hG' H ho x hx P hP)
 have HD:Hid (decide (uC x=P)=false):=hid (decide_eq_false hc)
 subst hn
 have HS:=hid hSh
 clear hx hP hc hSh
 have HG:=hid hG
 have HF:=hid hph
 clear hG hph H ho
 rcases h12 with rfl|rfl
 ·go_enter Tryz.func188,Tryz.ntmps188
  have HT0:Hid (Touch (inG p) w w):=hid (Touch.refl _ _)
  go_wp2_with fail
  refine(bP HG.out _ HF.out).mono ?_
  rintro e wm1 ⟨rfl,hG,hT⟩
  have HG1:=hid hG
  have HT1:Hid (Touch (inG p) _ wm1):=hid (HT0.out.trans hT)
  clear hG hT
  go_wp2_with fail
  refine(HS1.out _ _ HG1.out).mono ?_
  rw[HD.out]
  rintro e wm2 ⟨rfl,hG,hT⟩
  have HG2:=hid hG
  have HT2:Hid (Touch (inG p) _ wm2):=hid (HT1.out.trans hT)
  clear hG hT
  go_wp2_with fail
  refine(HS.out _ _ HG2.out).mono ?_
  rintro e wm3 ⟨rfl,hG,hT⟩
  have HG3:=hid hG
  have HT3:Hid (Touch (inG p) _ wm3):=hid (HT2.out.trans hT)
  clear hG hT
  go_wp2_with fail
  go_ret
  exact⟨rfl,HG3.out.fJ rfl (by show s.m+1+3+k=_;omega),HT3.out⟩
 ·go_enter Tryz.func188,Tryz.ntmps188
  have HT0:Hid (Touch (inG p) w w):=hid (Touch.refl _ _)
  go_wp2_with fail
  refine(bP HG.out _ HF.out).mono ?_
  rintro e wm1 ⟨rfl,hG,hT⟩
  have HG1:=hid hG
  have HT1:Hid (Touch (inG p) _ wm1):=hid (HT0.out.trans hT)
  clear hG hT
  go_wp2_with fail
  refine(HS1.out _ _ HG1.out).mono ?_
  rw[HD.out]
  rintro e wm2 ⟨rfl,hG,hT⟩
  have HG2:=hid hG
  have HT2:Hid (Touch (inG p) _ wm2):=hid (HT1.out.trans hT)
  clear hG hT
  go_wp2_with fail
  refine(HS.out _ _ HG2.out).mono ?_
  rintro e wm3 ⟨rfl,hG,hT⟩
  have HG3:=hid hG
  have HT3:Hid (Touch (inG p) _ wm3):=hid (HT2.out.trans hT)
  clear hG hT
  go_wp2_with fail
  go_ret
  exact⟨rfl,HG3.out.fJ rfl (by show s.m+1+3+k=_;omega),HT3.out⟩
theorem wQ(ph:Int)(hph:nth s.zs 11=ph)(h12:ph=1∨ph=2)(hG:G w p c s)(H:af c s.zs pool os)(ho:o∈os)(x:Int)(hx:nth s.zs (adr c o.h 0)=x)(P:Int)(hP:nth s.zs 10=P)(hc:¬uC x=P)(n:Int)(k:Nat)(hSh:∀(w':World) (m:Nat),G w' p c ⟨s.zs,m⟩→Calls Tryz.prog 121 #[.pointer (some ⟨p.a,0,none⟩),.int .i64 ((o.h:Int)+1)] w' (GP w' p c ⟨s.zs,m+k⟩ (.int .i64 n)))(hn:0<n)(hn1:n≤4294967295):Calls Tryz.prog 188 #[.pointer (some ⟨p.a,0,none⟩),.int .i64 ((o.h:Int)+1)] w (GP w p c ⟨s.zs.set (adr c o.h 4) (n-1),s.m+(5+k)⟩ (.bool true)):=by
 have HS1:=hid (fun(w':World) (m:Nat) (hG':G w' p c ⟨s.zs,m⟩)=>jF hG' H ho x hx P hP)
 have hA:=H.obs o ho
 have hW:=hG.may.w
 have HB:=hid hA.hlt
 have HV:Hid (4<c.W):=hid (by omega)
 have e1:=bQ hG.may hA.hlt
 clear hA hW
 have HD:Hid (decide (uC x=P)=false):=hid (decide_eq_false hc)
 have HS:=hid hSh
 have hw1:IntKind.i64.wrap (n-1)=n-1:=IntWalk.i64_in _ (by omega)
 have hw2:IntKind.u32.wrap (n-1)=n-1:=IntWalk.u32_in _ (by omega)
 have HN0:Hid (0≤n-1):=hid (by omega)
 have HN1:Hid (n-1≤4294967295):=hid (by omega)
 clear hx hP hc hSh hn1
 have HG:=hid hG
 have HF:=hid hph
 clear hG hph H ho
 rcases h12 with rfl|rfl
 ·go_enter Tryz.func188,Tryz.ntmps188
  have HT0:Hid (Touch (inG p) w w):=hid (Touch.refl _ _)
  go_wp2_with fail
  refine(bP HG.out _ HF.out).mono ?_
  rintro e wm1 ⟨rfl,hG,hT⟩
  have HG1:=hid hG
  have HT1:Hid (Touch (inG p) _ wm1):=hid (HT0.out.trans hT)
  clear hG hT
  go_wp2_with fail
  refine(HS1.out _ _ HG1.out).mono ?_
  rw[HD.out]
  rintro e wm2 ⟨rfl,hG,hT⟩
  have HG2:=hid hG
  have HT2:Hid (Touch (inG p) _ wm2):=hid (HT1.out.trans hT)
  clear hG hT
  go_wp2_with fail
  refine(HS.out _ _ HG2.out).mono ?_
  rintro e wm3 ⟨rfl,hG,hT⟩
  have HG3:=hid hG
  have HT3:Hid (Touch (inG p) _ wm3):=hid (HT2.out.trans hT)
  clear hG hT
  go_wp2_with fail
  refine(aG p c _ o.h 4 _ _ (n-1) _ HG3.out HB.out HV.out rfl rfl HN0.out HN1.out).mono ?_
  rintro e wm4 ⟨rfl,hG,hT⟩
  have HG4:=hid hG
  have HT4:Hid (Touch (inG p) _ wm4):=hid (HT3.out.trans hT)
  clear hG hT
  go_wp2_with fail
  go_ret
  exact⟨rfl,HG4.out.fJ rfl (by show s.m+1+3+k+1=_;omega),HT4.out⟩
 ·go_enter Tryz.func188,Tryz.ntmps188
  have HT0:Hid (Touch (inG p) w w):=hid (Touch.refl _ _)
  go_wp2_with fail
  refine(bP HG.out _ HF.out).mono ?_
  rintro e wm1 ⟨rfl,hG,hT⟩
  have HG1:=hid hG
  have HT1:Hid (Touch (inG p) _ wm1):=hid (HT0.out.trans hT)
  clear hG hT
  go_wp2_with fail
  refine(HS1.out _ _ HG1.out).mono ?_
  rw[HD.out]
  rintro e wm2 ⟨rfl,hG,hT⟩
  have HG2:=hid hG
  have HT2:Hid (Touch (inG p) _ wm2):=hid (HT1.out.trans hT)
  clear hG hT
  go_wp2_with fail
  refine(HS.out _ _ HG2.out).mono ?_
  rintro e wm3 ⟨rfl,hG,hT⟩
  have HG3:=hid hG
  have HT3:Hid (Touch (inG p) _ wm3):=hid (HT2.out.trans hT)
  clear hG hT
  go_wp2_with fail
  refine(aG p c _ o.h 4 _ _ (n-1) _ HG3.out HB.out HV.out rfl rfl HN0.out HN1.out).mono ?_
  rintro e wm4 ⟨rfl,hG,hT⟩
  have HG4:=hid hG
  have HT4:Hid (Touch (inG p) _ wm4):=hid (HT3.out.trans hT)
  clear hG hT
  go_wp2_with fail
  go_ret
  exact⟨rfl,HG4.out.fJ rfl (by show s.m+1+3+k+1=_;omega),HT4.out⟩
end
section
variable {c:Cf} {D D':Wd} {zs zs':List Int} {t:Th} {r:Int}
theorem Kl(l:List Nat)(b:Nat):hasB (ints l) (b:Int)=decide (b∈l):=by
 unfold hasB ints
 rw[List.any_map]
 induction l with
 |nil=>rfl
 |cons a l ih=>
  rw[List.any_cons,ih]
  by_cases e:a=b
  ·subst e;simp
  ·have e1:¬((a:Int)=(b:Int)):=by omega
   have e2:¬b=a:=fun h=>e h.symm
   simp[e1,e2]
theorem Wz.set(h:Wz c zs)(k:Nat){v:Int}(h0:0≤v)(h1:v≤4294967295):Wz c (zs.set k v):=⟨h.may,by simp;exact h.len,h.wf.set k h0 h1⟩
theorem kC(zs:List Int)(t:Th):nth zs (adr c t.ob.h 0)=nth zs (adr c t.h 0):=rfl
theorem gy(a:Option Nat):dK a≤1:=oC a
theorem NT(hz:Wz c zs)(R:au c zs D):au c (zs.set 10 (1-D.parity)) D.turn:=by
 refine R.jw hz.may hz.len (k:=10) (by omega) (by omega) rfl rfl rfl rfl rfl rfl rfl rfl (fun j h1 h2 h3=> ?_) (by have:=R.par;show 1-D.parity=0∨1-D.parity=1;omega)
 have:j=11∨j=12∨j=13∨j=14∨j=15∨j=16∨j=17∨j=18:=by omega
 rcases this with rfl|rfl|rfl|rfl|rfl|rfl|rfl|rfl<;>rfl
theorem NR(hz:Wz c zs)(R:au c zs D)(x y:Int):au c ((zs.set 12 x).set 13 y) (D.move x y):=by
 have R1:au c (zs.set 12 x) {D with cursor:=x}:=by
  refine R.jw hz.may hz.len (k:=12) (by omega) (by omega) rfl rfl rfl rfl rfl rfl rfl rfl (fun j h1 h2 h3=> ?_) R.par
  have:j=10∨j=11∨j=13∨j=14∨j=15∨j=16∨j=17∨j=18:=by omega
  rcases this with rfl|rfl|rfl|rfl|rfl|rfl|rfl|rfl<;>rfl
 refine R1.jw hz.may (by simp;exact hz.len) (k:=13) (by omega) (by omega) rfl rfl rfl rfl rfl rfl rfl rfl (fun j h1 h2 h3=> ?_) R.par
 have:j=10∨j=11∨j=12∨j=14∨j=15∨j=16∨j=17∨j=18:=by omega
 rcases this with rfl|rfl|rfl|rfl|rfl|rfl|rfl|rfl<;>rfl
theorem LK(hz:Wz c zs)(R:au c zs D)(y:Int):au c (((((zs.set 11 y).set 12 0).set 13 0).set 14 0).set 15 0) (D.begin y):=by
 have R1:au c (zs.set 11 y) {D with phase:=y}:=by
  refine R.jw hz.may hz.len (k:=11) (by omega) (by omega) rfl rfl rfl rfl rfl rfl rfl rfl (fun j h1 h2 h3=> ?_) R.par
  have:j=10∨j=12∨j=13∨j=14∨j=15∨j=16∨j=17∨j=18:=by omega
  rcases this with rfl|rfl|rfl|rfl|rfl|rfl|rfl|rfl<;>rfl
 have R2:au c ((zs.set 11 y).set 12 0) {D with phase:=y,cursor:=0}:=by
  refine R1.jw hz.may (by simp;exact hz.len) (k:=12) (by omega) (by omega) rfl rfl rfl rfl rfl rfl rfl rfl (fun j h1 h2 h3=> ?_) R.par
  have:j=10∨j=11∨j=13∨j=14∨j=15∨j=16∨j=17∨j=18:=by omega
  rcases this with rfl|rfl|rfl|rfl|rfl|rfl|rfl|rfl<;>rfl
 have R3:au c (((zs.set 11 y).set 12 0).set 13 0) {D with phase:=y,cursor:=0,field:=0}:=by
  refine R2.jw hz.may (by simp;exact hz.len) (k:=13) (by omega) (by omega) rfl rfl rfl rfl rfl rfl rfl rfl (fun j h1 h2 h3=> ?_) R.par
  have:j=10∨j=11∨j=12∨j=14∨j=15∨j=16∨j=17∨j=18:=by omega
  rcases this with rfl|rfl|rfl|rfl|rfl|rfl|rfl|rfl<;>rfl
 have R4:au c ((((zs.set 11 y).set 12 0).set 13 0).set 14 0) {D with phase:=y,cursor:=0,field:=0,scan:=0}:=by
  refine R3.jw hz.may (by simp;exact hz.len) (k:=14) (by omega) (by omega) rfl rfl rfl rfl rfl rfl rfl rfl (fun j h1 h2 h3=> ?_) R.par
  have:j=10∨j=11∨j=12∨j=13∨j=15∨j=16∨j=17∨j=18:=by omega
  rcases this with rfl|rfl|rfl|rfl|rfl|rfl|rfl|rfl<;>rfl
 refine R4.jw hz.may (by simp;exact hz.len) (k:=15) (by omega) (by omega) rfl rfl rfl rfl rfl rfl rfl rfl (fun j h1 h2 h3=> ?_) R.par
 have:j=10∨j=11∨j=12∨j=13∨j=14∨j=16∨j=17∨j=18:=by omega
 rcases this with rfl|rfl|rfl|rfl|rfl|rfl|rfl|rfl<;>rfl
theorem gU(R:au c zs D)(hf:D.find r=none):dU D.obs r=none:=by rw[obAt_find R r,hf];rfl
theorem sK(R:au c zs D)(hf:D.find r=some t){c' n' s' d':Int}(hz:Wz c zs)(hc:c'=0∨c'=1)(hn:n'=0∨n'=1)(hs:s'=0∨s'=1)(hd:d'=uD (nth zs (adr c t.h 0))∨d'=1)(f:Mrk→Mrk)
  (hm:f t.mr={t.mr with color:=c',count:=n',shade:=s',dead:=decide (d'=1)}):au c (zs.set (adr c t.h 0) (dB (nth zs (adr c t.h 0)) c' n' s' d')) (D.mark r f):=by
 obtain⟨h1,h2,h3,h4,h5⟩:=R.fI hf
 refine R.Pn hz.may hz.len hf hc hn hs ?_ (fun h=> ?_) hm
 ·have:=(bv (nth zs (adr c t.h 0))).2.2.2
  rcases hd with rfl|rfl
  ·exact this
  ·exact .inr rfl
 ·rcases hd with rfl|rfl
  ·exact h5.JN h
  ·rfl
theorem Dz(R:au c zs D)(hz:Wz c zs)(hf:D.find r=some t):au c (zs.set (adr c t.h 0) (dB (nth zs (adr c t.h 0)) D.parity (uN (nth zs (adr c t.h 0))) (uS (nth zs (adr c t.h 0))) (uD (nth zs (adr c t.h 0))))) (D.paint r):=by
 obtain⟨h1,h2,h3,h4,h5⟩:=R.fI hf
 exact sK R hf hz R.par (bv _).2.1 (bv _).2.2.1 (.inl rfl) _ (by simp only;rw[h5.cN,h5.cS,h5.yx])
theorem NP(R:au c zs D)(hz:Wz c zs)(hf:D.find r=some t):au c (zs.set (adr c t.h 0) (dB (nth zs (adr c t.h 0)) (uC (nth zs (adr c t.h 0))) D.parity (uS (nth zs (adr c t.h 0))) (uD (nth zs (adr c t.h 0))))) (D.done r):=by
 obtain⟨h1,h2,h3,h4,h5⟩:=R.fI hf
 exact sK R hf hz (bv _).1 R.par (bv _).2.2.1 (.inl rfl) _ (by simp only;rw[h5.cC,h5.cS,h5.yx])
theorem NQ(R:au c zs D)(hz:Wz c zs)(hf:D.find r=some t):au c (zs.set (adr c t.h 0) (dB (nth zs (adr c t.h 0)) (uC (nth zs (adr c t.h 0))) (uN (nth zs (adr c t.h 0))) (uS (nth zs (adr c t.h 0))) 1)) (D.kill r):=by
 obtain⟨h1,h2,h3,h4,h5⟩:=R.fI hf
 exact sK R hf hz (bv _).1 (bv _).2.1 (bv _).2.2.1 (.inr rfl) _ (by simp only;rw[h5.cC,h5.cN,h5.cS];rfl)
theorem Qc(R:au c zs D)(hz:Wz c zs)(hf:D.find r=some t):au c ((zs.set (adr c t.h 0) (dB (nth zs (adr c t.h 0)) D.parity D.parity D.parity (uD (nth zs (adr c t.h 0))))).set (adr c t.h 4) 0) (D.dye r):=by
 obtain⟨h1,h2,h3,h4,h5⟩:=R.fI hf
 have R1:=sK R hf hz R.par R.par R.par (.inl rfl) (fun m=>{m with color:=D.parity,count:=D.parity,shade:=D.parity}) (by simp only;rw[h5.yx])
 have R2:=R1.iW hz.may (by simp;exact hz.len) (mark_find _ hf) (v:=4) (.inr rfl) (x:=0) (f:=fun m=>{m with shadow:=0}) rfl
 rw[lC] at R2
 exact R2
theorem IX(R:au c zs D)(hz:Wz c zs)(hf:D.find r=some t):au c ((zs.set (adr c t.h 0) (dB (nth zs (adr c t.h 0)) (uC (nth zs (adr c t.h 0))) (uN (nth zs (adr c t.h 0))) D.parity (uD (nth zs (adr c t.h 0))))).set (adr c t.h 4) (D.shd r+1)) (D.aR r):=by
 obtain⟨h1,h2,h3,h4,h5⟩:=R.fI hf
 have R1:=sK R hf hz (bv _).1 (bv _).2.1 R.par (.inl rfl) (fun m=>{m with shade:=D.parity}) (by simp only;rw[h5.cC,h5.cN,h5.yx])
 have R2:=R1.iW hz.may (by simp;exact hz.len) (mark_find _ hf) (v:=4) (.inr rfl) (x:=D.shd r+1) (f:=fun m=>{m with shadow:=D.shd r+1}) rfl
 rw[lC] at R2
 exact R2
theorem sJ(R:au c zs D)(hz:Wz c zs)(hf:D.find r=some t):∃k,k≤4∧0≤D.shd r∧D.shd r≤4294967295∧∀(p:Pl) (w:World) (m:Nat),G w p c ⟨zs,m⟩→Calls Tryz.prog 121 #[.pointer (some ⟨p.a,0,none⟩),.int .i64 ((t.ob.h:Int)+1)] w (GP w p c ⟨zs,m+k⟩ (.int .i64 (D.shd r))):=by
 obtain⟨h1,h2,h3,h4,h5⟩:=R.fI hf
 have hP:=R.reg 10 (by omega) (by omega)
 have hwf:=hz.wf (adr c t.h 4)
 by_cases e:t.mr.shade=D.parity
 ·have es:D.shd r=nth zs (adr c t.h 4):=by unfold Wd.shd;rw[hf];simp only;rw[if_pos e,h5.w4]
  refine⟨4,by omega,by rw[es];exact hwf.1,by rw[es];exact hwf.2,fun p w m hG=> ?_⟩
  rw[es]
  exact xZ (s:=⟨zs,m⟩) (o:=t.ob) hG R.heap h3 (nth zs (adr c t.h 0)) (kC zs t) D.parity hP (by show uS (nth zs (adr c t.h 0))=_;rw[h5.cS];exact e) _ rfl
 ·have es:D.shd r=0:=by unfold Wd.shd;rw[hf];simp only;rw[if_neg e]
  refine⟨3,by omega,by rw[es];decide,by rw[es];decide,fun p w m hG=> ?_⟩
  rw[es]
  exact DW (s:=⟨zs,m⟩) (o:=t.ob) hG R.heap h3 (nth zs (adr c t.h 0)) (kC zs t) D.parity hP (by show ¬uS (nth zs (adr c t.h 0))=_;rw[h5.cS];exact e)
theorem Fw(R:au c zs D)(hz:Wz c zs)(hf:D.find r=some t)(hs:D.shd r≠0):au c (zs.set (adr c t.h 4) (D.shd r-1)) (D.mark r (fun m=>{m with shadow:=m.shadow-1})):=by
 obtain⟨h1,h2,h3,h4,h5⟩:=R.fI hf
 have es:D.shd r=t.mr.shadow:=by
  unfold Wd.shd at hs ⊢
  rw[hf] at hs ⊢
  simp only at hs ⊢
  split
  ·rfl
  ·rename_i e;rw[if_neg e] at hs;exact absurd rfl hs
 rw[es]
 exact R.iW hz.may hz.len hf (v:=4) (.inr rfl) (x:=t.mr.shadow-1) (f:=fun m=>{m with shadow:=m.shadow-1}) rfl
theorem mU{D:Wd}{r:Int}(h:D.toucht r=false):D.touch r=D:=by
 unfold Wd.touch
 rw[if_neg (by rw[h];decide)]
theorem jD{D:Wd}{r:Int}(h:D.lighter r=false):D.lighten r=D:=by
 unfold Wd.lighten
 rw[if_neg (by rw[h];decide)]
theorem Fx(R:au c zs D)(hz:Wz c zs)(hf:D.find r=some t)(hn:t.h∉D.ring)(hg:t.h+1∉D.grave):au c (aS c t.h zs) {D with ring:=D.ring++[t.h]}:=by
 have hm:=hz.may
 have hw:=hm.w
 obtain⟨h1,h2,h3,h4,h5⟩:=R.fI hf
 obtain⟨K1,K2,K3⟩:=R.heap.ND R.ring hm hz.len h3 (show t.ob.h∉D.ring from hn)
 have hmem:∀x,x∈D.ring→∃u,u∈D.live∧u.h=x:=fun x hx=>by
  obtain⟨o,ho,e⟩:=R.heap.nZ hm R.ring hx
  obtain⟨u,hu,rfl⟩:=List.mem_map.1 ho
  exact⟨u,hu,e⟩
 have out:∀i,(i≠7∧i≠8∧i≠9∧i≠adr c t.h 0∧∀x,(x=t.h∨x∈D.ring)→i≠adr c x 6∧i≠adr c x 7)→nth (aS c t.h zs) i=nth zs i:=fun i hi=>jh R.ring hz.len hi
 have oreg:∀i,i<24→i≠7→i≠8→i≠9→nth (aS c t.h zs) i=nth zs i:=fun i h24 a7 a8 a9=>out i ⟨a7,a8,a9,by have:=az c t.h 0;omega,fun x _=>⟨by have:=az c x 6;omega,by have:=az c x 7;omega⟩⟩
 have oown:∀b u,u<8→u≠0→u≠6→u≠7→nth (aS c t.h zs) (adr c b u)=nth zs (adr c b u):=fun b u hu a0 a6 a7=>out _ ⟨by have:=az c b u;omega,by have:=az c b u;omega,by have:=az c b u;omega,fun e=>a0 (ak (by omega) (by omega) e).2,fun x _=>⟨fun e=>a6 (ak (by omega) (by omega) e).2,fun e=>a7 (ak (by omega) (by omega) e).2⟩⟩
 have hlt:=R.hlt (find_live hf).1
 have hmk:uG (nth zs (adr c t.h 0))=0:=R.ring.QF hlt hn
 have otag:∀b,b<c.N→uC (nth (aS c t.h zs) (adr c b 0))=uC (nth zs (adr c b 0))∧uN (nth (aS c t.h zs) (adr c b 0))=uN (nth zs (adr c b 0))∧uS (nth (aS c t.h zs) (adr c b 0))=uS (nth zs (adr c b 0))∧uD (nth (aS c t.h zs) (adr c b 0))=uD (nth zs (adr c b 0)):=fun b hb=>by
  rw[nX hm hz.len hb]
  by_cases e:b=t.h
  ·subst e
   rw[if_pos rfl]
   unfold uG at hmk
   unfold uC uN uS uD
   omega
  ·rw[if_neg e]
   exact⟨rfl,rfl,rfl,rfl⟩
 refine R.frame hm K2 rfl rfl rfl rfl (fun u hu=>⟨u,hu,rfl,rfl,rfl,rfl⟩) (fun u hu=> ?_) K1 (R.grave.same (fun j j1 j2=>oreg j (by omega) (by omega) (by omega) (by omega)) (fun b _=>oown b 5 (by omega) (by omega) (by omega) (by omega))) (by rw[oreg 6 (by omega) (by omega) (by omega) (by omega)];exact R.r6) (fun j j1 j2=>by rw[oreg j (by omega) (by omega) (by omega) (by omega)];exact R.reg j j1 j2) R.par R.gv (fun u hu hug=> ?_)
 ·have ho:=R.own u hu
  obtain⟨a1,a2,a3,a4⟩:=otag u.h (R.hlt hu)
  exact⟨a1.trans ho.cC,a2.trans ho.cN,a3.trans ho.cS,a4.trans ho.cD,by rw[oown _ 3 (by omega) (by omega) (by omega) (by omega)];exact ho.w3,by rw[oown _ 4 (by omega) (by omega) (by omega) (by omega)];exact ho.w4⟩
 ·obtain⟨b1,b2,b3,b4⟩:=R.bur u hu hug
  have hne:u.h≠t.h:=fun e=>hg (e▸hug)
  have hx:∀v,v<8→v≠0→nth (aS c t.h zs) (adr c u.h v)=nth zs (adr c u.h v):=fun v hv hv0=>out _ ⟨by have:=az c u.h v;omega,by have:=az c u.h v;omega,by have:=az c u.h v;omega,fun e=>hv0 (ak (by omega) (by omega) e).2,fun x hx=>by
   have:u.h≠x:=by
    rcases hx with rfl|hx
    ·exact hne
    ·exact fun e=>b4 (e▸hx)
   exact⟨fun e=>this (ak (by omega) (by omega) e).1,fun e=>this (ak (by omega) (by omega) e).1⟩⟩
  refine⟨b1,by rw[hx 6 (by omega) (by omega)];exact b2,by rw[hx 7 (by omega) (by omega)];exact b3,fun hin=> ?_⟩
  rcases List.mem_append.1 hin with hin|hin
  ·exact b4 hin
  ·exact hne (List.mem_singleton.1 hin)
end
set_option maxHeartbeats 1000000 in
theorem xN:∀c D (ph:Int),Does c D 21 [.int .i64 ph] 5 (D.nJ ph) (.bool (phB ph)):=fun c D ph zs hz R=>by
 cases h:phB ph with
 |true=>exact⟨_,⟨5,by omega,fun p m w hG=>AB hG ph h⟩,by unfold Wd.nJ;rw[if_pos h];exact LK hz R ph⟩
 |false=>exact⟨zs,⟨0,by omega,fun p m w hG=>DJ hG ph h⟩,by unfold Wd.nJ;rw[if_neg (by simp[h])];exact R⟩
set_option maxHeartbeats 1000000 in
theorem AA:∀c D (x y:Int),Does c D 53 [.int .i64 x,.int .i64 y] 2 (D.yJ x y) (.bool (KH x y)):=fun c D x y zs hz R=>by
 cases h:KH x y with
 |true=>exact⟨_,⟨2,by omega,fun p m w hG=>DU hG x y h⟩,by unfold Wd.yJ;rw[if_pos h];exact NR hz R x y⟩
 |false=>exact⟨zs,⟨0,by omega,fun p m w hG=>FJ hG x y h⟩,by unfold Wd.yJ;rw[if_neg (by simp[h])];exact R⟩
set_option maxHeartbeats 1000000 in
theorem Dy:∀c D (r:Int),In64 r→Does c D 69 [.int .i64 r] 5 (D.dye r) (.bool (D.find r).isSome):=fun c D r hr zs hz R=>by
 cases hf:D.find r with
 |none=>exact⟨zs,⟨_,by have:=gy (ax c (prev r) 0);omega,fun p m w hG=>Je _ (R.reg 10 (by omega) (by omega)) hG R.heap hr (gU R hf)⟩,by rw[show D.dye r=D from bA _ hf];exact R⟩
 |some t=>
  obtain⟨h1,h2,h3,h4,h5⟩:=R.fI hf
  have K:=Qc R hz hf
  subst h4
  refine⟨_,?_,K⟩
  exact⟨5,by omega,fun p m w hG=>FH (s:=⟨zs,m⟩) (o:=t.ob) _ (R.reg 10 (by omega) (by omega)) R.par hG R.heap h3 (nth zs (adr c t.h 0)) (kC zs t)⟩
set_option maxHeartbeats 1000000 in
theorem xO:∀c D (r:Int),In64 r→Does c D 51 [.int .i64 r] 3 D (.bool (D.fG r)):=fun c D r hr zs hz R=>by
 cases hf:D.find r with
 |none=>exact⟨zs,⟨dK (ax c (prev r) 0),by have:=gy (ax c (prev r) 0);omega,fun p m w hG=>by rw[show D.fG r=false by unfold Wd.fG;rw[hf]];exact tY hG R.heap hr (gU R hf)⟩,R⟩
 |some t=>
  obtain⟨h1,h2,h3,h4,h5⟩:=R.fI hf
  have e:D.fG r=decide (uC (nth zs (adr c t.h 0))=D.parity):=by unfold Wd.fG;rw[hf,h5.cC]
  rw[e]
  subst h4
  exact⟨zs,⟨3,by omega,fun p m w hG=>jF (s:=⟨zs,m⟩) (o:=t.ob) hG R.heap h3 (nth zs (adr c t.h 0)) (kC zs t) D.parity (R.reg 10 (by omega) (by omega))⟩,R⟩
set_option maxHeartbeats 1000000 in
theorem xP:∀c D (r:Int),In64 r→Does c D 54 [.int .i64 r] 4 (D.paint r) (.bool (D.find r).isSome):=fun c D r hr zs hz R=>by
 cases hf:D.find r with
 |none=>exact⟨zs,⟨_,by have:=gy (ax c (prev r) 0);omega,fun p m w hG=>DV _ (R.reg 10 (by omega) (by omega)) hG R.heap hr (gU R hf)⟩,by rw[show D.paint r=D from bA _ hf];exact R⟩
 |some t=>
  obtain⟨h1,h2,h3,h4,h5⟩:=R.fI hf
  have K:=Dz R hz hf
  subst h4
  refine⟨_,?_,K⟩
  exact⟨4,by omega,fun p m w hG=>AL (s:=⟨zs,m⟩) (o:=t.ob) _ (R.reg 10 (by omega) (by omega)) R.par hG R.heap h3 (nth zs (adr c t.h 0)) (kC zs t)⟩
set_option maxHeartbeats 1000000 in
theorem xQ:∀c D (r:Int),In64 r→Does c D 88 [.int .i64 r] 14 (D.touch r) (.bool (D.toucht r)):=fun c D r hr zs hz R=>by
 have hP:=R.reg 10 (by omega) (by omega)
 have hph:=R.reg 11 (by omega) (by omega)
 by_cases h0:D.phase=0
 ·have e:D.toucht r=false:=by unfold Wd.toucht;cases D.find r<;>simp[h0]
  rw[mU e,e]
  exact⟨zs,⟨1,by omega,fun p m w hG=>yf hG (hph.trans h0)⟩,R⟩
 cases hf:D.find r with
 |none=>
  have e:D.toucht r=false:=by unfold Wd.toucht;rw[hf]
  rw[mU e,e]
  exact⟨zs,⟨_,by have:=gy (ax c (prev r) 0);omega,fun p m w hG=>DY _ hph h0 _ hP hG R.heap hr (gU R hf)⟩,R⟩
 |some t=>
  obtain⟨h1,h2,h3,h4,h5⟩:=R.fI hf
  have et:D.toucht r=(!t.mr.dead&& !decide (t.mr.color=D.parity)):=by unfold Wd.toucht;rw[hf];simp[h0]
  cases hd:t.mr.dead with
  |true=>
   have e:D.toucht r=false:=by rw[et,hd];rfl
   rw[mU e,e]
   subst h4
   exact⟨zs,⟨4,by omega,fun p m w hG=>yc (s:=⟨zs,m⟩) (o:=t.ob) _ hph h0 _ hP hG R.heap h3 (nth zs (adr c t.h 0)) (kC zs t) (h5.JN hd)⟩,R⟩
  |false=>
   have hd0:=h5.Ol hd
   by_cases hc:t.mr.color=D.parity
   ·have e:D.toucht r=false:=by rw[et,hd];simp[hc]
    rw[mU e,e]
    subst h4
    exact⟨zs,⟨4,by omega,fun p m w hG=>wR (s:=⟨zs,m⟩) (o:=t.ob) _ hph h0 _ hP hG R.heap h3 (nth zs (adr c t.h 0)) (kC zs t) hd0 (h5.cC.trans hc)⟩,R⟩
   ·have e:D.toucht r=true:=by rw[et,hd];simp[hc]
    have hcn:¬uC (nth zs (adr c t.h 0))=D.parity:=by rw[h5.cC];exact hc
    have K:=Dz R hz hf
    have hlt:=R.hlt (find_live hf).1
    have hmb:hasB (ints D.ring) (r-1)=decide (t.h∈D.ring):=by
     rw[show r-1=((t.h:Nat):Int) by omega,Kl]
    by_cases hin:t.h∈D.ring
    ·have eD:D.touch r=D.paint r:=by
      unfold Wd.touch
      rw[e,hmb,if_pos rfl,if_pos (by simp[hin])]
      rfl
     rw[eD,e]
     subst h4
     refine⟨_,?_,K⟩
     exact⟨6,by omega,fun p m w hG=>DX (s:=⟨zs,m⟩) (o:=t.ob) _ hph h0 _ hP R.par hG R.heap h3 (nth zs (adr c t.h 0)) (kC zs t) hd0 hcn D.ring K.ring hin⟩
    ·have eD:D.touch r={D.paint r with ring:=(D.paint r).ring++[t.h]}:=by
      unfold Wd.touch
      rw[e,hmb,if_pos rfl,if_neg (by simp[hin]),show(r-1).toNat=t.h by omega]
      rfl
     have hng:t.h+1∉D.grave:=fun hg=>by
      have:=(R.bur t (find_live hf).1 hg).1
      rw[hd] at this
      cases this
     have hz1:Wz c (zs.set (adr c t.h 0) (dB (nth zs (adr c t.h 0)) D.parity (uN (nth zs (adr c t.h 0))) (uS (nth zs (adr c t.h 0))) (uD (nth zs (adr c t.h 0))))):=by
      have hok:=mD h1 h2 R.par (bv (nth zs (adr c t.h 0))).2.1 (bv (nth zs (adr c t.h 0))).2.2.1 (bv (nth zs (adr c t.h 0))).2.2.2
      exact hz.set _ hok.2.2.2.2.2.2.2.1 hok.2.2.2.2.2.2.2.2
     have K2:=Fx K hz1 (mark_find _ hf) hin hng
     rw[eD,e]
     subst h4
     refine⟨_,?_,K2⟩
     exact⟨14,by omega,fun p m w hG=>AO (s:=⟨zs,m⟩) (o:=t.ob) _ hph h0 _ hP R.par hG R.heap h3 (nth zs (adr c t.h 0)) (kC zs t) hd0 hcn D.ring K.ring hin⟩
set_option maxHeartbeats 1000000 in
theorem Aw:∀c D (r:Int),In64 r→Does c D 50 [.int .i64 r] 2 D (.bool (D.dead r)):=fun c D r hr zs hz R=>by
 cases hf:D.find r with
 |none=>exact⟨zs,⟨dK (ax c (prev r) 0),by have:=gy (ax c (prev r) 0);omega,fun p m w hG=>by rw[show D.dead r=false by unfold Wd.dead;rw[hf]];exact FD hG R.heap hr (gU R hf)⟩,R⟩
 |some t=>
  obtain⟨h1,h2,h3,h4,h5⟩:=R.fI hf
  have e:D.dead r=decide (uD (nth zs (adr c t.h 0))=1):=by unfold Wd.dead;rw[hf,h5.yx]
  rw[e]
  subst h4
  exact⟨zs,⟨2,by omega,fun p m w hG=>DK (s:=⟨zs,m⟩) (o:=t.ob) hG R.heap h3 (nth zs (adr c t.h 0)) (kC zs t)⟩,R⟩
set_option maxHeartbeats 1000000 in
theorem Az:∀c D (r:Int),In64 r→Does c D 134 [.int .i64 r] 3 (D.kill r) (.bool ((D.find r).isSome&& !D.dead r)):=fun c D r hr zs hz R=>by
 cases hf:D.find r with
 |none=>exact⟨zs,⟨_,by have:=gy (ax c (prev r) 0);omega,fun p m w hG=>FI hG R.heap hr (gU R hf)⟩,by rw[show D.kill r=D from bA _ hf];exact R⟩
 |some t=>
  obtain⟨h1,h2,h3,h4,h5⟩:=R.fI hf
  have e:D.dead r=t.mr.dead:=by unfold Wd.dead;rw[hf]
  rw[e]
  cases hd:t.mr.dead with
  |false=>
   have K:=NQ R hz hf
   subst h4
   refine⟨_,?_,K⟩
   exact⟨3,by omega,fun p m w hG=>DN (s:=⟨zs,m⟩) (o:=t.ob) hG R.heap h3 (nth zs (adr c t.h 0)) (kC zs t) (h5.Ol hd)⟩
  |true=>
   have eD:D.kill r=D:=by
    obtain⟨i,hi,ht⟩:=jJ hf
    unfold Wd.kill Wd.mark Wd.upd
    rw[AV hi ht,show({t with mr:={t.mr with dead:=true}}:Th)=t by rw[←hd],qQ ht]
   rw[eD]
   subst h4
   exact⟨zs,⟨2,by omega,fun p m w hG=>AJ (s:=⟨zs,m⟩) (o:=t.ob) hG R.heap h3 (nth zs (adr c t.h 0)) (kC zs t) (h5.JN hd)⟩,R⟩
set_option maxHeartbeats 1000000 in
theorem wI:∀c D (r:Int),In64 r→Does c D 121 [.int .i64 r] 4 D (.int .i64 (D.shd r)):=fun c D r hr zs hz R=>by
 cases hf:D.find r with
 |none=>exact⟨zs,⟨dK (ax c (prev r) 0),by have:=gy (ax c (prev r) 0);omega,fun p m w hG=>by rw[show D.shd r=0 by unfold Wd.shd;rw[hf]];exact mV hG R.heap hr (gU R hf)⟩,R⟩
 |some t=>
  obtain⟨h1,h2,h3,h4,h5⟩:=R.fI hf
  obtain⟨k,hk,_,_,h⟩:=sJ R hz hf
  subst h4
  exact⟨zs,⟨k,by omega,fun p m w hG=>h p w m hG⟩,R⟩
set_option maxHeartbeats 1000000 in
theorem wH:∀c D (r:Int),In64 r→D.shd r<4294967295→Does c D 181 [.int .i64 r] 9 (D.aR r) (.bool (D.find r).isSome):=fun c D r hr hs zs hz R=>by
 cases hf:D.find r with
 |none=>exact⟨zs,⟨_,by have:=gy (ax c (prev r) 0);omega,fun p m w hG=>AC _ (R.reg 10 (by omega) (by omega)) hG R.heap hr (gU R hf)⟩,by rw[show D.aR r=D from bA _ hf];exact R⟩
 |some t=>
  obtain⟨h1,h2,h3,h4,h5⟩:=R.fI hf
  obtain⟨k,hk,n0,n1,h⟩:=sJ R hz hf
  have K:=IX R hz hf
  subst h4
  refine⟨_,?_,K⟩
  exact⟨k+5,by omega,fun p m w hG=>xX (s:=⟨zs,m⟩) (o:=t.ob) _ (R.reg 10 (by omega) (by omega)) R.par hG R.heap h3 (nth zs (adr c t.h 0)) (kC zs t) _ k (fun w' m' hG'=>h p w' m' hG') n0 hs⟩
set_option maxHeartbeats 1000000 in
theorem ui:∀c D (r:Int),In64 r→Does c D 188 [.int .i64 r] 9 (D.lighten r) (.bool (D.lighter r)):=fun c D r hr zs hz R=>by
 have hP:=R.reg 10 (by omega) (by omega)
 have hph:=R.reg 11 (by omega) (by omega)
 by_cases h12:D.phase=1∨D.phase=2
 ·have h12b:(decide (D.phase=1)||decide (D.phase=2))=true:=by simpa using h12
  cases hf:D.find r with
  |none=>
   have e:D.lighter r=false:=by unfold Wd.lighter Wd.shd;rw[hf];simp
   rw[jD e,e]
   exact⟨zs,⟨_,by have:=gy (ax c (prev r) 0);omega,fun p m w hG=>xY _ hph h12 hG R.heap hr (gU R hf)⟩,R⟩
  |some t=>
   obtain⟨h1,h2,h3,h4,h5⟩:=R.fI hf
   have eb:D.fG r=decide (t.mr.color=D.parity):=by unfold Wd.fG;rw[hf]
   by_cases hc:t.mr.color=D.parity
   ·have e:D.lighter r=false:=by unfold Wd.lighter;rw[eb];simp[hc]
    rw[jD e,e]
    subst h4
    exact⟨zs,⟨4,by omega,fun p m w hG=>sM (s:=⟨zs,m⟩) (o:=t.ob) _ hph h12 hG R.heap h3 (nth zs (adr c t.h 0)) (kC zs t) _ hP (h5.cC.trans hc)⟩,R⟩
   ·have hcn:¬uC (nth zs (adr c t.h 0))=D.parity:=by rw[h5.cC];exact hc
    obtain⟨k,hk,n0,n1,h⟩:=sJ R hz hf
    by_cases hs:D.shd r=0
    ·have e:D.lighter r=false:=by unfold Wd.lighter;rw[hs];simp
     rw[jD e,e]
     subst h4
     exact⟨zs,⟨4+k,by omega,fun p m w hG=>uk (s:=⟨zs,m⟩) (o:=t.ob) _ hph h12 hG R.heap h3 (nth zs (adr c t.h 0)) (kC zs t) _ hP hcn _ k (fun w' m' hG'=>h p w' m' hG') hs⟩,R⟩
    ·have e:D.lighter r=true:=by unfold Wd.lighter;rw[eb,h12b];simp[hc,hs]
     have K:=Fw R hz hf hs
     rw[show D.lighten r=D.mark r (fun m=>{m with shadow:=m.shadow-1}) by unfold Wd.lighten;rw[if_pos e],e]
     subst h4
     refine⟨_,?_,K⟩
     exact⟨5+k,by omega,fun p m w hG=>wQ (s:=⟨zs,m⟩) (o:=t.ob) _ hph h12 hG R.heap h3 (nth zs (adr c t.h 0)) (kC zs t) _ hP hcn _ k (fun w' m' hG'=>h p w' m' hG') (by omega) n1⟩
 ·have e:D.lighter r=false:=by unfold Wd.lighter;rw[show(decide (D.phase=1)||decide (D.phase=2))=false by simpa using h12];rfl
  rw[jD e,e]
  exact⟨zs,⟨1,by omega,fun p m w hG=>uj _ hG hph (fun q=>h12 (.inl q)) (fun q=>h12 (.inr q))⟩,R⟩
set_option maxHeartbeats 1000000 in
theorem nD:∀c D (r i:Int),In64 r→Does c D 123 [.int .i64 r,.int .i64 i] 6 D (.bool (D.counted r i)):=fun c D r i hr zs hz R=>by
 have hP:=R.reg 10 (by omega) (by omega)
 cases hf:D.find r with
 |none=>
  rw[show D.counted r i=false by unfold Wd.counted;rw[hf]]
  exact⟨zs,⟨_,by have:=gy (ax c (prev r) 0);omega,fun p m w hG=>xV _ hG R.heap hr (gU R hf)⟩,R⟩
 |some t=>
  obtain⟨h1,h2,h3,h4,h5⟩:=R.fI hf
  have e:D.counted r i=(decide (0≤i)&&(decide (t.mr.count=D.parity)||(decide (D.phase=1)&&decide (D.cursor=r-1)&&decide (i<D.field)))):=by unfold Wd.counted;rw[hf]
  by_cases hi:i<0
  ·rw[show D.counted r i=false by rw[e,show decide (0≤i)=false from decide_eq_false (by omega)];rfl]
   subst h4
   exact⟨zs,⟨2,by omega,fun p m w hG=>wO (s:=⟨zs,m⟩) (o:=t.ob) _ hG R.heap h3 (nth zs (adr c t.h 0)) (kC zs t) hi⟩,R⟩
  ·have hi':decide (0≤i)=true:=decide_eq_true (by omega)
   by_cases hn:t.mr.count=D.parity
   ·rw[show D.counted r i=true by rw[e,hi',decide_eq_true hn];rfl]
    subst h4
    exact⟨zs,⟨3,by omega,fun p m w hG=>wP (s:=⟨zs,m⟩) (o:=t.ob) _ hG R.heap h3 (nth zs (adr c t.h 0)) (kC zs t) _ hP hi (h5.cN.trans hn)⟩,R⟩
   ·have hnn:¬uN (nth zs (adr c t.h 0))=D.parity:=by rw[h5.cN];exact hn
    have e2:D.counted r i=(decide (D.phase=1)&&decide (D.cursor=r-1)&&decide (i<D.field)):=by rw[e,hi',decide_eq_false hn];simp
    have hph:=R.reg 11 (by omega) (by omega)
    have hcu:=R.reg 12 (by omega) (by omega)
    have hfi:=R.reg 13 (by omega) (by omega)
    by_cases hp1:D.phase=1
    ·by_cases hc1:D.cursor=(t.h:Int)
     ·rw[show D.counted r i=decide (i<D.field) by rw[e2,decide_eq_true hp1,decide_eq_true (show D.cursor=r-1 by omega)];simp]
      subst h4
      exact⟨zs,⟨6,by omega,fun p m w hG=>xU (s:=⟨zs,m⟩) (o:=t.ob) _ hG R.heap h3 (nth zs (adr c t.h 0)) (kC zs t) _ hP hi hnn _ _ _ hph hcu hfi hp1 hc1⟩,R⟩
     ·rw[show D.counted r i=false by rw[e2,decide_eq_false (show ¬D.cursor=r-1 by omega)];simp]
      subst h4
      exact⟨zs,⟨6,by omega,fun p m w hG=>xS (s:=⟨zs,m⟩) (o:=t.ob) _ hG R.heap h3 (nth zs (adr c t.h 0)) (kC zs t) _ hP hi hnn _ _ _ hph hcu hfi hp1 hc1⟩,R⟩
    ·rw[show D.counted r i=false by rw[e2,decide_eq_false hp1];simp]
     subst h4
     exact⟨zs,⟨6,by omega,fun p m w hG=>xW (s:=⟨zs,m⟩) (o:=t.ob) _ hG R.heap h3 (nth zs (adr c t.h 0)) (kC zs t) _ hP hi hnn _ _ _ hph hcu hfi hp1⟩,R⟩
set_option maxHeartbeats 1000000 in
theorem Ay:∀c D (r:Int),In64 r→Does c D 137 [.int .i64 r] 4 (D.done r) (.bool (D.find r).isSome):=fun c D r hr zs hz R=>by
 cases hf:D.find r with
 |none=>exact⟨zs,⟨_,by have:=gy (ax c (prev r) 0);omega,fun p m w hG=>FE _ (R.reg 10 (by omega) (by omega)) hG R.heap hr (gU R hf)⟩,by rw[show D.done r=D from bA _ hf];exact R⟩
 |some t=>
  obtain⟨h1,h2,h3,h4,h5⟩:=R.fI hf
  have K:=NP R hz hf
  subst h4
  refine⟨_,?_,K⟩
  exact⟨4,by omega,fun p m w hG=>DL (s:=⟨zs,m⟩) (o:=t.ob) _ (R.reg 10 (by omega) (by omega)) R.par hG R.heap h3 (nth zs (adr c t.h 0)) (kC zs t)⟩
theorem tintFns:FV where
 phase:=fun c D zs hz R=>⟨zs,⟨1,by omega,fun p m w hG=>bP hG _ (R.reg 11 (by omega) (by omega))⟩,R⟩
 turn:=fun c D=>⟨_,fun zs hz R=>⟨_,⟨2,by omega,fun p m w hG=>NZ hG _ (R.reg 10 (by omega) (by omega)) R.par⟩,NT hz R⟩⟩
 begin_:=xN
 at_:=fun c D zs hz R=>⟨zs,⟨2,by omega,fun p m w hG=>GL hG _ _ (R.reg 12 (by omega) (by omega)) (R.reg 13 (by omega) (by omega))⟩,R⟩
 move:=AA
 dye:=Dy
 fG:=xO
 paint:=xP
 touch:=xQ
 dead:=Aw
 shadow:=wI
 aR:=wH
 counted:=nD
 done:=Ay
def Wd.lessRing(D:Wd)(h:Nat):Wd:={D with ring:=D.ring.filter (fun b=>b !=h)}
def Wd.setP(D:Wd)(r:Int)(i:Nat)(x:Int):Wd:=D.upd r (fun t=>{t with pt:=t.pt.set i x})
def Wd.gz(D:Wd)(r:Int)(j b:Nat):Wd:={D.upd r (fun t=>{t with lv:=t.lv.set j (-1)}) with clean:=b::D.clean}
def Wd.endAt(D:Wd)(r:Int)(h:Nat):Wd:={D.upd r (fun t=>{t with ended:=true}) with clean:=h::D.clean}
theorem xe{l1 l2:List Nat}{b:Nat}(hn:(l1++b::l2).Nodup):(l1++b::l2).filter (fun x=>x !=b)=l1++l2:=by
 rw[List.nodup_append] at hn
 obtain⟨h1,h2,h3⟩:=hn
 have h4:=List.nodup_cons.1 h2
 rw[List.filter_append,List.filter_cons]
 have e1:l1.filter (fun x=>x !=b)=l1:=List.filter_eq_self.2 (fun x hx=>by simp;exact h3 x hx b (by simp))
 have e2:l2.filter (fun x=>x !=b)=l2:=List.filter_eq_self.2 (fun x hx=>by simp;exact fun e=>h4.1 (e▸hx))
 rw[e1,e2]
 simp
theorem JD{c:Cf}{zs:List Int}{b i:Nat}(h3:i≠3)(h4:i≠4)(h5:i≠5)(hb:i≠fT c b)(hl:nth zs 4≠0→i≠fT c (nth zs 4-1).toNat):nth (iL c 1 b zs) i=nth zs i:=by
 by_cases hlt:i<zs.length
 ·rw[show nth (iL c 1 b zs) i=addN c 1 b zs i from bS _ hlt]
  unfold addN
  rw[if_neg (by omega),if_neg (by omega),if_neg (by omega),if_neg hb,if_neg]
  rintro⟨e1,e2⟩
  exact hl e1 e2
 ·rw[bN (by rw[jc];omega),bN (by omega)]
theorem IV{c:Cf}{zs:List Int}{b i:Nat}(h3:i≠3)(h4:i≠4)(h5:i≠5)(hb:i≠fT c b):nth (ek c 1 b zs) i=nth zs i:=by
 by_cases hlt:i<zs.length
 ·rw[show nth (ek c 1 b zs) i=takeN c 1 b zs i from bS _ hlt]
  unfold takeN
  rw[if_neg (by omega),if_neg (by omega),if_neg (by omega),if_neg hb]
 ·rw[bN (by rw[dV];omega),bN (by omega)]
section
variable {c:Cf} {D D':Wd} {zs zs':List Int} {t s:Th} {r:Int}
theorem au.uz(R:au c zs D)(hm:c.May){x:Nat}(hx:x∈D.ring):∃u,u∈D.live∧u.h=x:=by
 obtain⟨o,ho,e⟩:=R.heap.nZ hm R.ring hx
 obtain⟨u,hu,rfl⟩:=List.mem_map.1 ho
 exact⟨u,hu,e⟩
theorem au.same(R:au c zs D)(hu:t∈D.live)(hv:s∈D.live)(e:t.h=s.h):t=s:=by
 have h1:=R.findIt hu
 have h2:=R.findIt hv
 rw[e] at h1
 rw[h1] at h2
 cases h2
 rfl
theorem wJ(R:au c zs D)(hz:Wz c zs)(hf:D.find r=some t)(hn:t.h∈D.ring):au c (aL c t.h zs) (D.lessRing t.h):=by
 have hm:=hz.may
 have hw:=hm.w
 obtain⟨h1,h2,h3,h4,h5⟩:=R.fI hf
 obtain⟨l1,l2,e⟩:=Dr hn
 have hR:=R.ring
 rw[e] at hR
 have eD:(D.lessRing t.h).ring=l1++l2:=by
  show D.ring.filter _=_
  have:=R.ring.nd
  rw[e] at this ⊢
  exact xe this
 obtain⟨K1,K2,K3⟩:=R.heap.NE (o:=t.ob) hR hm hz.len h3
 have hsub:∀x,x∈l1++l2→x∈D.ring∧x≠t.h:=fun x hx=>by
  rw[←eD] at hx
  have:=List.mem_filter.1 (show x∈D.ring.filter (fun b=>b !=t.h) from hx)
  exact⟨this.1,by simpa using this.2⟩
 have hng:t.h+1∉D.grave:=fun hg=>(R.bur t (find_live hf).1 hg).2.2.2 hn
 have out:∀i,qh c (l1++l2) t.h i→nth (aL c t.h zs) i=nth zs i:=fun i hi=>ji hR hz.len hi
 have oreg:∀i,i<24→i≠7→i≠8→i≠9→nth (aL c t.h zs) i=nth zs i:=fun i h24 a7 a8 a9=>out i ⟨a7,a8,a9,by have:=az c t.h 0;omega,fun x _=>⟨by have:=az c x 6;omega,by have:=az c x 7;omega⟩⟩
 have oown:∀b u,u<8→u≠0→u≠6→u≠7→nth (aL c t.h zs) (adr c b u)=nth zs (adr c b u):=fun b u hu a0 a6 a7=>out _ ⟨by have:=az c b u;omega,by have:=az c b u;omega,by have:=az c b u;omega,fun e=>a0 (ak (by omega) (by omega) e).2,fun x _=>⟨fun e=>a6 (ak (by omega) (by omega) e).2,fun e=>a7 (ak (by omega) (by omega) e).2⟩⟩
 have hlt:=R.hlt (find_live hf).1
 have hmk:uG (nth zs (adr c t.h 0))=1:=(R.ring.mrk _ hlt).2 hn
 have otag:∀b,b<c.N→uC (nth (aL c t.h zs) (adr c b 0))=uC (nth zs (adr c b 0))∧uN (nth (aL c t.h zs) (adr c b 0))=uN (nth zs (adr c b 0))∧uS (nth (aL c t.h zs) (adr c b 0))=uS (nth zs (adr c b 0))∧uD (nth (aL c t.h zs) (adr c b 0))=uD (nth zs (adr c b 0)):=fun b hb=>by
  rw[nY hm hz.len hb]
  by_cases e:b=t.h
  ·subst e
   rw[if_pos rfl]
   unfold uG at hmk
   unfold uC uN uS uD
   omega
  ·rw[if_neg e]
   exact⟨rfl,rfl,rfl,rfl⟩
 refine R.frame hm K2 rfl rfl rfl rfl (fun u hu=>⟨u,hu,rfl,rfl,rfl,rfl⟩) (fun u hu=> ?_) (by rw[eD];exact K1) (R.grave.same (fun j j1 j2=>oreg j (by omega) (by omega) (by omega) (by omega)) (fun b _=>oown b 5 (by omega) (by omega) (by omega) (by omega))) (by rw[oreg 6 (by omega) (by omega) (by omega) (by omega)];exact R.r6) (fun j j1 j2=>by rw[oreg j (by omega) (by omega) (by omega) (by omega)];exact R.reg j j1 j2) R.par R.gv (fun u hu hug=> ?_)
 ·have ho:=R.own u hu
  obtain⟨a1,a2,a3,a4⟩:=otag u.h (R.hlt hu)
  exact⟨a1.trans ho.cC,a2.trans ho.cN,a3.trans ho.cS,a4.trans ho.cD,by rw[oown _ 3 (by omega) (by omega) (by omega) (by omega)];exact ho.w3,by rw[oown _ 4 (by omega) (by omega) (by omega) (by omega)];exact ho.w4⟩
 ·obtain⟨b1,b2,b3,b4⟩:=R.bur u hu hug
  have hne:u.h≠t.h:=fun e=>hng (e▸hug)
  have hx:∀v,v<8→v≠0→nth (aL c t.h zs) (adr c u.h v)=nth zs (adr c u.h v):=fun v hv hv0=>out _ ⟨by have:=az c u.h v;omega,by have:=az c u.h v;omega,by have:=az c u.h v;omega,fun e=>hv0 (ak (by omega) (by omega) e).2,fun x hx=>by
   have:u.h≠x:=by
    rcases hx with rfl|hx
    ·exact hne
    ·exact fun e=>b4 (e▸(hsub x hx).1)
   exact⟨fun e=>this (ak (by omega) (by omega) e).1,fun e=>this (ak (by omega) (by omega) e).1⟩⟩
  exact⟨b1,by rw[hx 6 (by omega) (by omega)];exact b2,by rw[hx 7 (by omega) (by omega)];exact b3,fun hin=>by rw[eD] at hin;exact b4 (hsub _ hin).1⟩
theorem au.GA(R:au c zs D)(hm:c.May)(hz:zs.length=c.size)(hf:D.find r=some t){v:Nat}(hv:v=6∨v=7){x:Int}{f:Mrk→Mrk}
  (hm':f t.mr=if v=6 then {t.mr with left:=x} else {t.mr with leaves:=x}) (hn:t.h∉D.ring):au c (zs.set (adr c t.h v) x) (D.mark r f):=by
 have hw:=hm.w
 obtain⟨htl,hr⟩:=find_live hf
 have hlt:=R.hlt htl
 have hne:∀a u,u<8→(a≠t.h∨u≠v)→nth (zs.set (adr c t.h v) x) (adr c a u)=nth zs (adr c a u):=fun a u hu hn=>ae (fun e=>by
  have:=ak (c:=c) (by omega) (by omega) e
  rcases hn with hn|hn
  ·exact hn this.1.symm
  ·exact hn this.2.symm) x
 have hself:nth (zs.set (adr c t.h v) x) (adr c t.h v)=x:=aA (by rw[hz];exact dX hlt (by omega)) x
 have hreg:∀r,r<24→nth (zs.set (adr c t.h v) x) r=nth zs r:=fun r hr=>ae (fun e=>by have:=az c t.h v;omega) x
 have kd:(f t.mr).dead=t.mr.dead:=by rw[hm'];split<;>rfl
 refine R.frame hm ⟨by simp,fun i hi hne'=>ae (fun e=>hne' t.ob (R.obMem htl) v (by omega) (by omega) (by omega) e.symm) x,fun o ho=>by rw[hne o.h 0 (by omega) (.inr (by omega))];exact⟨(R.heap.obs o ho).tok,rfl⟩⟩ rfl rfl rfl (qH f) (fun s hs=>pR R hf hs) (fun s hs=> ?_)
  (R.ring.congr (fun j hj=>hreg j (by omega)) (fun b _=>hne b 0 (by omega) (.inr (by omega))) (fun b hb=>⟨hne b 6 (by omega) (.inl (fun e=>hn (e▸hb))),hne b 7 (by omega) (.inl (fun e=>hn (e▸hb)))⟩)) (R.grave.same (fun j h1 h2=>hreg j (by omega)) (fun b _=>hne b 5 (by omega) (.inr (by omega)))) (by rw[hreg 6 (by omega)];exact R.r6) (fun j h1 h2=>by rw[hreg j (by omega)];exact R.reg j h1 h2) R.par (fun q hq=>zJ R f q hq) (fun s hs hg'=> ?_)
 ·have h0:∀b u,u<8→u≠6→u≠7→nth (zs.set (adr c t.h v) x) (adr c b u)=nth zs (adr c b u):=fun b u hu a6 a7=>hne b u hu (.inr (by omega))
  rcases iT R hf hs with rfl|⟨h,hn⟩
  ·have:=R.own t htl
   have e1:(f t.mr).color=t.mr.color:=by rw[hm'];split<;>rfl
   have e2:(f t.mr).count=t.mr.count:=by rw[hm'];split<;>rfl
   have e3:(f t.mr).shade=t.mr.shade:=by rw[hm'];split<;>rfl
   have e4:(f t.mr).refs=t.mr.refs:=by rw[hm'];split<;>rfl
   have e5:(f t.mr).shadow=t.mr.shadow:=by rw[hm'];split<;>rfl
   refine⟨?_,?_,?_,?_,?_,?_⟩<;>simp only[h0 t.h 0 (by omega) (by omega) (by omega),h0 t.h 3 (by omega) (by omega) (by omega),h0 t.h 4 (by omega) (by omega) (by omega),e1,e2,e3,e4,e5,kd]
   ·exact this.cC
   ·exact this.cN
   ·exact this.cS
   ·exact this.cD
   ·exact this.w3
   ·exact this.w4
  ·obtain⟨a1,a2,a3,a4,a5,a6⟩:=R.own s h
   constructor<;>rw[h0 s.h _ (by omega) (by omega) (by omega)]<;>assumption
 ·rcases iT R hf hs with rfl|⟨h,hn'⟩
  ·obtain⟨b1,b2,b3,b4⟩:=R.bur t htl hg'
   refine⟨kd.trans b1,?_,?_,b4⟩
   ·rcases hv with rfl|rfl
    ·rw[if_pos rfl] at hm'
     show nth _ (adr c t.h 6)=(f t.mr).left
     rw[hself,hm']
    ·rw[if_neg (by decide)] at hm'
     show nth _ (adr c t.h 6)=(f t.mr).left
     rw[hne t.h 6 (by omega) (.inr (by omega)),hm']
     exact b2
   ·rcases hv with rfl|rfl
    ·rw[if_pos rfl] at hm'
     show nth _ (adr c t.h 7)=(f t.mr).leaves
     rw[hne t.h 7 (by omega) (.inr (by omega)),hm']
     exact b3
    ·rw[if_neg (by decide)] at hm'
     show nth _ (adr c t.h 7)=(f t.mr).leaves
     rw[hself,hm']
  ·rw[hne s.h 6 (by omega) (.inl hn'),hne s.h 7 (by omega) (.inl hn')]
   exact R.bur s h hg'
theorem au.Kj(R:au c zs D)(hm:c.May)(hz:zs.length=c.size)(hf:D.find r=some t)(hd:t.mr.dead=true)(h6:nth zs (adr c t.h 6)=t.mr.left)(h7:nth zs (adr c t.h 7)=t.mr.leaves)(hn:t.h∉D.ring)(hg:t.h+1∉D.grave):au c (iL c 1 t.h zs) {D with grave:=D.grave++[t.h+1]}:=by
 have hw:=hm.w
 obtain⟨htl,hr⟩:=find_live hf
 have hlt:=R.hlt htl
 have hnm:t.h∉D.grave.map (· -1):=fun h=>by
  obtain⟨q,hq,e⟩:=List.mem_map.1 h
  obtain⟨u,hu,e2⟩:=R.gv q hq
  have:t.h+1=q:=by omega
  exact hg (this▸hq)
 have hA:=R.grave.add hm hz (by omega:1<2) hlt hnm
 have eg:(D.grave++[t.h+1]).map (· -1)=D.grave.map (· -1)++[t.h]:=by simp
 have hlast:nth zs 4≠0→∃u,u∈D.live∧(nth zs 4-1).toNat=u.h:=fun h0=>by
  have hr1:nth zs 4=jX (D.grave.map (· -1)):=R.grave.r1
  rw[hr1] at h0
  obtain⟨y,hy,e⟩:=gM (D.grave.map (· -1)) (fun e=>h0 (by rw[e];rfl))
  obtain⟨q,hq,e1⟩:=List.mem_map.1 hy
  obtain⟨u,hu,e2⟩:=R.gv q hq
  refine⟨u,hu,?_⟩
  rw[hr1,e]
  omega
 have out:∀i,i≠3→i≠4→i≠5→(∀u,u∈D.live→i≠adr c u.h 5)→nth (iL c 1 t.h zs) i=nth zs i:=fun i a3 a4 a5 ho=>JD a3 a4 a5 (by rw[gB];exact ho t htl) (fun h0=>by
  obtain⟨u,hu,e⟩:=hlast h0
  rw[e,gB]
  exact ho u hu)
 have hne:∀b u,u<c.W→u≠5→nth (iL c 1 t.h zs) (adr c b u)=nth zs (adr c b u):=fun b u hu h5=>out _ (by have:=az c b u;omega) (by have:=az c b u;omega) (by have:=az c b u;omega) (fun s _ e=>h5 (ak hu (by omega) e).2)
 have hreg:∀r,r<24→r≠3→r≠4→r≠5→nth (iL c 1 t.h zs) r=nth zs r:=fun r hr a3 a4 a5=>out r a3 a4 a5 (fun s _ e=>by have:=az c s.h 5;omega)
 refine R.frame hm ⟨jc _ _ _ _,fun i hi hne'=>out i (by omega) (by omega) (by omega) (fun s hs=>hne' s.ob (R.obMem hs) 5 (by omega) (by omega) (by omega)),fun o ho=>by rw[hne o.h 0 (by omega) (by omega)];exact⟨(R.heap.obs o ho).tok,rfl⟩⟩ rfl rfl rfl rfl (fun s hs=>⟨s,hs,rfl,rfl,rfl,rfl⟩) (fun s hs=> ?_)
  (R.ring.congr (fun j hj=>hreg j (by omega) (by omega) (by omega) (by omega)) (fun b _=>hne b 0 (by omega) (by omega)) (fun b hb=>⟨hne b 6 (by omega) (by omega),hne b 7 (by omega) (by omega)⟩)) (by rw[eg];exact hA) (by rw[hreg 6 (by omega) (by omega) (by omega) (by omega)];exact R.r6) (fun j h1 h2=>by rw[hreg j (by omega) (by omega) (by omega) (by omega)];exact R.reg j h1 h2) R.par (fun q hq=> ?_) (fun s hs hg'=> ?_)
 ·obtain⟨a1,a2,a3,a4,a5,a6⟩:=R.own s hs
  constructor<;>rw[hne s.h _ (by omega) (by omega)]<;>assumption
 ·rcases List.mem_append.1 hq with hq|hq
  ·exact R.gv q hq
  ·exact⟨t,htl,(List.mem_singleton.1 hq).symm⟩
 ·rw[hne s.h 6 (by omega) (by omega),hne s.h 7 (by omega) (by omega)]
  rcases List.mem_append.1 hg' with h1|h1
  ·exact R.bur s hs h1
  ·have e:s.h=t.h:=by have:=List.mem_singleton.1 h1;omega
   obtain rfl:=R.same hs htl e
   exact⟨hd,h6,h7,hn⟩
theorem au.Ib(R:au c zs D)(hm:c.May)(hz:zs.length=c.size){g:Nat}{rest:List Nat}(hg:D.grave=g::rest):au c (ek c 1 (g-1) zs) {D with grave:=rest}:=by
 have hw:=hm.w
 obtain⟨t,htl,e⟩:=R.gv g (by rw[hg];simp)
 have e':g-1=t.h:=by omega
 rw[e']
 have hC:=R.grave
 rw[hg,List.map_cons,e'] at hC
 obtain⟨hT,_⟩:=hC.take hm hz (by omega:1<2)
 have out:∀i,i≠3→i≠4→i≠5→i≠adr c t.h 5→nth (ek c 1 t.h zs) i=nth zs i:=fun i a3 a4 a5 ho=>IV a3 a4 a5 (by rw[gB];exact ho)
 have hne:∀b u,u<c.W→u≠5→nth (ek c 1 t.h zs) (adr c b u)=nth zs (adr c b u):=fun b u hu h5=>out _ (by have:=az c b u;omega) (by have:=az c b u;omega) (by have:=az c b u;omega) (fun e=>h5 (ak hu (by omega) e).2)
 have hreg:∀r,r<24→r≠3→r≠4→r≠5→nth (ek c 1 t.h zs) r=nth zs r:=fun r hr a3 a4 a5=>out r a3 a4 a5 (fun e=>by have:=az c t.h 5;omega)
 refine R.frame hm ⟨dV _ _ _ _,fun i hi hne'=>out i (by omega) (by omega) (by omega) (hne' t.ob (R.obMem htl) 5 (by omega) (by omega) (by omega)),fun o ho=>by rw[hne o.h 0 (by omega) (by omega)];exact⟨(R.heap.obs o ho).tok,rfl⟩⟩ rfl rfl rfl rfl (fun s hs=>⟨s,hs,rfl,rfl,rfl,rfl⟩) (fun s hs=> ?_)
  (R.ring.congr (fun j hj=>hreg j (by omega) (by omega) (by omega) (by omega)) (fun b _=>hne b 0 (by omega) (by omega)) (fun b hb=>⟨hne b 6 (by omega) (by omega),hne b 7 (by omega) (by omega)⟩)) hT (by rw[hreg 6 (by omega) (by omega) (by omega) (by omega)];exact R.r6) (fun j h1 h2=>by rw[hreg j (by omega) (by omega) (by omega) (by omega)];exact R.reg j h1 h2) R.par (fun q hq=>R.gv q (by rw[hg];exact List.mem_cons_of_mem _ hq)) (fun s hs hg'=> ?_)
 ·obtain⟨a1,a2,a3,a4,a5,a6⟩:=R.own s hs
  constructor<;>rw[hne s.h _ (by omega) (by omega)]<;>assumption
 ·rw[hne s.h 6 (by omega) (by omega),hne s.h 7 (by omega) (by omega)]
  exact R.bur s hs (by rw[hg];exact List.mem_cons_of_mem _ hg')
theorem au.Ap(R:au c zs D)(hm:c.May)(hz:zs.length=c.size)(x:Int):au c (zs.set 6 x) {D with pending:=x}:=by
 have hs:=hm.size
 have ha:∀b u,nth (zs.set 6 x) (adr c b u)=nth zs (adr c b u):=fun b u=>ae (fun e=>by have:=az c b u;omega) x
 have hr:∀j,j≠6→nth (zs.set 6 x) j=nth zs j:=fun j hj=>ae (fun e=>hj e.symm) x
 refine R.frame hm ⟨by simp,fun i hi hne=>hr i (by omega),fun o ho'=>by rw[ha];exact⟨(R.heap.obs o ho').tok,rfl⟩⟩ rfl rfl rfl rfl (fun t' ht'=>⟨t',ht',rfl,rfl,rfl,rfl⟩) (fun t' ht'=> ?_) (R.ring.congr (fun j hj=>hr j (by omega)) (fun b _=>ha b 0) (fun b _=>⟨ha b 6,ha b 7⟩)) (R.grave.same (fun j h1 h2=>hr j (by omega)) (fun b _=>ha b 5)) (aA (by rw[hz];omega) x) (fun j h1 h2=>by rw[hr j (by omega)];exact R.reg j h1 h2) R.par R.gv (fun t' ht' hg=>by rw[ha,ha];exact R.bur t' ht' hg)
 obtain⟨a1,a2,a3,a4,a5,a6⟩:=R.own t' ht'
 constructor<;>rw[ha]<;>assumption
end
section
variable {c:Cf} {D D':Wd} {zs zs':List Int} {t s:Th} {r:Int}
theorem mi{g:Th→Th}(hg:∀t,(g t).ended=t.ended):∀{l:List Th},((aF l).map Th.h).Nodup→findL r l=some t→aF (updL r g l)=(aF l).map (fun s=>if s.h=t.h then g s else s)
 |[],_,h=>by simp[findL] at h
 |u::l,hn,h=>by
  unfold findL at h
  unfold updL
  cases hu:u.at r with
  |true=>
   rw[hu] at h
   simp at h
   subst h
   have hue:u.ended=false:=by unfold Th.at at hu;simp at hu;exact hu.1
   rw[av,hue] at hn
   rw[if_pos rfl,av,av,hg,hue]
   simp at hn ⊢
   rw[List.map_congr_left (g:=id)]
   ·simp
   ·intro s hs
    have:=hn.1 s hs
    simp[this]
  |false=>
   rw[hu] at h
   simp at h
   have ht:=find_at h
   have htl:t∈aF l:=dN.2 ⟨ht.1,ht.2.1⟩
   rw[av] at hn
   rw[if_neg (by simp),av,av]
   cases hue:u.ended with
   |true=>
    rw[hue] at hn
    simp at hn ⊢
    exact mi hg hn h
   |false=>
    rw[hue] at hn
    simp at hn ⊢
    refine⟨?_,mi hg hn.2 h⟩
    have:¬u.h=t.h:=fun e=>hn.1 t htl e.symm
    simp[this]
theorem live_upd_end{g:Th→Th}(hg:∀t,(g t).ended=true):∀{l:List Th},((aF l).map Th.h).Nodup→findL r l=some t→aF (updL r g l)=(aF l).filter (fun s=>s.h !=t.h)
 |[],_,h=>by simp[findL] at h
 |u::l,hn,h=>by
  unfold findL at h
  unfold updL
  cases hu:u.at r with
  |true=>
   rw[hu] at h
   simp at h
   subst h
   have hue:u.ended=false:=by unfold Th.at at hu;simp at hu;exact hu.1
   rw[av,hue] at hn
   rw[if_pos rfl,av,av,hg,hue]
   simp at hn ⊢
   exact(List.filter_eq_self.2 (fun s hs=>by simpa using hn.1 s hs)).symm
  |false=>
   rw[hu] at h
   simp at h
   have ht:=find_at h
   have htl:t∈aF l:=dN.2 ⟨ht.1,ht.2.1⟩
   rw[av] at hn
   rw[if_neg (by simp),av,av]
   cases hue:u.ended with
   |true=>
    rw[hue] at hn
    simp at hn ⊢
    exact live_upd_end hg hn h
   |false=>
    rw[hue] at hn
    simp at hn ⊢
    have:¬u.h=t.h:=fun e=>hn.1 t htl e.symm
    rw[List.filter_cons,if_pos (by simpa using this),live_upd_end hg hn.2 h]
theorem Dk(r:Int)(i:Nat)(x:Int):(D.setP r i x).obs=D.obs:=ru (g:=fun t=>{t with pt:=t.pt.set i x}) (fun t=>⟨rfl,by unfold Th.ob;simp⟩) D.ts
theorem zb(R:au c zs D){i:Nat}{x:Int}(hf:D.find r=some t)(hs:s∈(D.setP r i x).live):s={t with pt:=t.pt.set i x}∨(s∈D.live∧s.h≠t.h):=aN R.nodup hf hs
theorem oG{o:Ob}(hm:c.May){i a:Nat}(hi:i<o.f)(ha:aM c o i=some a):∃q:Nat × Nat,aV c o i=some q∧a=adr c q.1 q.2∧q.1∈o.blocks∧1≤q.2∧q.2<c.W∧(q.1=o.h→o.f≤c.W-8→8≤q.2):=by
 unfold aM at ha
 cases hp:aV c o i with
 |none=>rw[hp] at ha;cases ha
 |some q=>
  rw[hp] at ha
  simp at ha
  exact⟨q,rfl,ha.symm,fw hp,fA hm hi hp⟩
theorem au.PY(R:au c zs D)(hm:c.May)(hz:zs.length=c.size)(hf:D.find r=some t){i a:Nat}(hi:i<t.pt.length)(ha:aM c t.ob i=some a)(x:Int):au c (zs.set a x) (D.setP r i x):=by
 have hw:=hm.w
 obtain⟨htl,hr⟩:=find_live hf
 have hif:i<t.ob.f:=by unfold Th.ob Ob.f;simp;omega
 obtain⟨q,hq,ea,hqm,q1,q2,q3⟩:=oG hm hif ha
 obtain⟨H1,H2⟩:=R.heap.Di hm hz (R.obMem htl) hif ha x
 have ha24:24≤a:=by rw[ea];exact az c _ _
 have hreg:∀k,k<24→nth (zs.set a x) k=nth zs k:=fun k hk=>ae (by omega) x
 have hhd:∀u,u∈D.live→∀v,v<8→nth (zs.set a x) (adr c u.h v)=nth zs (adr c u.h v):=fun u hu v hv=>ae (R.heap.nM hm (R.obMem hu) (R.obMem htl) hif ha hv) x
 have htag:∀b,nth (zs.set a x) (adr c b 0)=nth zs (adr c b 0):=fun b=>ae (fun e=>by
  rw[ea] at e
  have:=(ak q2 (by omega) e).2
  omega) x
 have hh:∀s,s∈(D.setP r i x).live→∃u,u∈D.live∧s.h=u.h∧s.mr=u.mr:=fun s hs=>by
  rcases zb R hf hs with rfl|⟨h,_⟩
  ·exact⟨t,htl,rfl,rfl⟩
  ·exact⟨s,h,rfl,rfl⟩
 refine⟨R.n,R.w,by rw[Dk];exact H1,fun s hs=> ?_,fun s hs k a' hk ha'=> ?_,R.ring.congr (fun j hj=>hreg j (by omega)) (fun b _=>htag b) (fun b hb=> ?_),R.grave.congr (hreg _ (by omega)) (hreg _ (by omega)) (hreg _ (by omega)) (fun b hb=> ?_),by rw[hreg 6 (by omega)];exact R.r6,fun k h1 h2=>by rw[hreg k (by omega)];exact R.reg k h1 h2,R.par,fun g hg=> ?_,fun s hs hg=> ?_⟩
 ·obtain⟨u,hu,e1,e2⟩:=hh s hs
  rw[e1,e2]
  obtain⟨a1,a2,a3,a4,a5,a6⟩:=R.own u hu
  constructor<;>rw[hhd u hu _ (by omega)]<;>assumption
 ·rcases zb R hf hs with rfl|⟨h,hne⟩
  ·have eo:Th.ob {t with pt:=t.pt.set i x}=t.ob:=by unfold Th.ob;simp
   rw[eo] at hk ha'
   have h2:=H2 t.ob k (R.obMem htl) hk
   have hold:=R.sZ t htl k a' hk ha'
   unfold dS at h2
   rw[ha'] at h2
   simp only at h2
   rw[h2]
   by_cases e:k=i
   ·subst e
    rw[if_pos (by simp)]
    unfold Th.sZ
    simp only[List.length_set]
    rw[if_pos hi]
    exact(aA hi x).symm
   ·rw[if_neg (fun h=>e h.2),hold]
    unfold Th.sZ
    simp only[List.length_set]
    split
    ·exact(ae (Ne.symm e) x).symm
    ·rfl
  ·have h2:=H2 s.ob k (R.obMem h) hk
   unfold dS at h2
   rw[ha'] at h2
   simp only at h2
   rw[h2,if_neg (fun h=>hne h.1)]
   exact R.sZ s h k a' hk ha'
 ·obtain⟨u,hu,rfl⟩:=R.uz hm hb
  exact⟨hhd u hu 6 (by omega),hhd u hu 7 (by omega)⟩
 ·obtain⟨g,hg,e⟩:=List.mem_map.1 hb
  obtain⟨u,hu,e2⟩:=R.gv g hg
  rw[gB,show b=u.h by omega]
  exact hhd u hu 5 (by omega)
 ·obtain⟨u,hu,e⟩:=R.gv g hg
  have h1:u.ob∈(D.setP r i x).obs:=by rw[Dk];exact R.obMem hu
  obtain⟨v,hv,e2⟩:=List.mem_map.1 h1
  have:v.h=u.h:=congrArg Ob.h e2
  exact⟨v,hv,by omega⟩
 ·obtain⟨u,hu,e1,e2⟩:=hh s hs
  have hg':u.h+1∈D.grave:=by rw[←e1];exact hg
  rw[e1,e2,hhd u hu 6 (by omega),hhd u hu 7 (by omega)]
  exact R.bur u hu hg'
theorem au.zT(R:au c zs D)(htl:t∈D.live){b:Nat}(hb:b+1∈t.ob.lv)(hu:s∈D.live):s.h≠b:=fun e=>by
 have hb':b∈t.ob.blocks:=by unfold Ob.blocks;exact List.mem_cons_of_mem _ (Ob.aU.2 hb)
 have:s.ob=t.ob:=R.heap.own (R.obMem hu) (R.obMem htl) s.ob.dM (by rw[show s.ob.h=b from e];exact hb')
 have h2:t.ob.h=b:=by rw[←this];exact e
 exact(List.nodup_cons.1 (R.heap.ownB (R.obMem htl))).1 (by rw[h2];exact Ob.aU.2 hb)
theorem Cj{l:List Int}{j b:Nat}(h:l[j]? =some (b:Int)):(l.map (fun x=>(x+1).toNat))[j]? =some (b+1):=by
 rw[List.getElem?_map,h]
 simp
theorem BC(R:au c zs D){j b:Nat}(hf:D.find r=some t)(hs:s∈(D.gz r j b).live):s={t with lv:=t.lv.set j (-1)}∨(s∈D.live∧s.h≠t.h):=aN R.nodup hf hs
theorem au.PZ(R:au c zs D)(hm:c.May)(hf:D.find r=some t){j b:Nat}(hj:t.lv[j]? =some (b:Int))(H:af c zs' (b::D.clean) (sD D.obs t.ob j))
  (hfr:∀i,¬i<3→i≠adr c t.h (8+j)→i≠adr c b 0→i≠adr c b 5→nth zs' i=nth zs i):au c zs' (D.gz r j b):=by
 have hw:=hm.w
 obtain⟨htl,hr⟩:=find_live hf
 have hjl:t.ob.lv[j]? =some (b+1):=Cj hj
 have hbl:b+1∈t.ob.lv:=List.mem_of_getElem? hjl
 have hjlt:j<t.ob.lv.length:=(List.getElem?_eq_some_iff.1 hjl).1
 have hlvW:=(R.heap.obs t.ob (R.obMem htl)).Im hm
 have hbig:¬t.ob.f≤c.W-8:=fun hs=>by
  have:=(R.heap.obs t.ob (R.obMem htl)).small hs hm
  rw[this] at hjlt
  simp at hjlt
 have hbb:b∈t.ob.blocks:=by unfold Ob.blocks;exact List.mem_cons_of_mem _ (Ob.aU.2 hbl)
 have hhd:∀u,u∈D.live→∀v,v<8→nth zs' (adr c u.h v)=nth zs (adr c u.h v):=fun u hu v hv=>hfr _ (by have:=az c u.h v;omega) (fun e=>by have:=(ak (c:=c) (by omega) (by omega) e).2;omega) (fun e=>R.zT htl hbl hu (ak (c:=c) (by omega) (by omega) e).1) (fun e=>R.zT htl hbl hu (ak (c:=c) (by omega) (by omega) e).1)
 have hreg:∀k,3≤k→k<24→nth zs' k=nth zs k:=fun k h3 hk=>hfr k (by omega) (by have:=az c t.h (8+j);omega) (by have:=az c b 0;omega) (by have:=az c b 5;omega)
 have htag:∀x,x≠b→nth zs' (adr c x 0)=nth zs (adr c x 0):=fun x hx=>hfr _ (by have:=az c x 0;omega) (fun e=>by have:=(ak (c:=c) (by omega) (by omega) e).2;omega) (fun e=>hx (ak (c:=c) (by omega) (by omega) e).1) (fun e=>hx (ak (c:=c) (by omega) (by omega) e).1)
 have hb0:nth zs' (adr c b 0)=0:=H.pl.fr b (by simp)
 have hbr:b∉D.ring:=fun h=>by
  obtain⟨u,hu,e⟩:=R.uz hm h
  exact R.zT htl hbl hu e
 have hh:∀s,s∈(D.gz r j b).live→∃u,u∈D.live∧s.h=u.h∧s.mr=u.mr:=fun s hs=>by
  rcases BC R hf hs with rfl|⟨h,_⟩
  ·exact⟨t,htl,rfl,rfl⟩
  ·exact⟨s,h,rfl,rfl⟩
 have hlive:(D.gz r j b).live=D.live.map (fun s=>if s.h=t.h then {s with lv:=s.lv.set j (-1)} else s):=mi (g:=fun s=>{s with lv:=s.lv.set j (-1)}) (fun _=>rfl) R.nodup hf
 have hobs:(D.gz r j b).obs=sD D.obs t.ob j:=by
  unfold Wd.obs sD
  rw[hlive,List.map_map,List.map_map]
  refine List.map_congr_left (fun s hs=> ?_)
  show Th.ob (if s.h=t.h then {s with lv:=s.lv.set j (-1)} else s)=if s.h=t.h then mK s.ob j else s.ob
  split
  ·unfold Th.ob mK
   simp[List.map_set]
  ·rfl
 refine⟨R.n,R.w,by rw[hobs];exact H,fun s hs=> ?_,fun s hs k a hk ha=> ?_,⟨by rw[hreg 7 (by omega) (by omega)];exact R.ring.r7,by rw[hreg 8 (by omega) (by omega)];exact R.ring.r8,by rw[hreg 9 (by omega) (by omega)];exact R.ring.r9,R.ring.lt,R.ring.nd,R.ring.seg.congr (fun x hx=> ?_),fun x hx=> ?_,fun x hx=> ?_,fun x hx=> ?_⟩,R.grave.congr (hreg _ (by omega) (by omega)) (hreg _ (by omega) (by omega)) (hreg _ (by omega) (by omega)) (fun x hx=> ?_),by rw[hreg 6 (by omega) (by omega)];exact R.r6,fun k h1 h2=>by rw[hreg k (by omega) (by omega)];exact R.reg k h1 h2,R.par,fun g hg=> ?_,fun s hs hg=> ?_⟩
 ·obtain⟨u,hu,e1,e2⟩:=hh s hs
  rw[e1,e2]
  obtain⟨a1,a2,a3,a4,a5,a6⟩:=R.own u hu
  constructor<;>rw[hhd u hu _ (by omega)]<;>assumption
 ·rcases BC R hf hs with rfl|⟨h,hne⟩
  ·have ef:(Th.ob {t with lv:=t.lv.set j (-1)}).f=t.ob.f:=rfl
   have ep:aM c t.ob k=some a∧∃b':Nat,t.ob.lv[k/(c.W-1)]? =some (b'+1)∧b'≠b∧a=adr c b' (1+k%(c.W-1)):=by
    obtain⟨q,hq,ea,_⟩:=oG hm hk ha
    unfold aV at hq
    rw[if_neg (by rw[ef];exact hbig)] at hq
    have el:(Th.ob {t with lv:=t.lv.set j (-1)}).lv=t.ob.lv.set j 0:=by unfold Th.ob;simp[List.map_set]
    rw[el] at hq
    by_cases e:k/(c.W-1)=j
    ·rw[e,List.getElem?_set_self hjlt] at hq
     simp at hq
    ·rw[List.getElem?_set_ne (Ne.symm e)] at hq
     split at hq
     ·rename_i b' hb'
      cases hq
      refine⟨by unfold aM;rw[iQ hbig hb'];simp[ea],b',hb',fun eb=>e ?_,ea⟩
      subst eb
      exact rR (List.nodup_cons.1 (R.heap.ownB (R.obMem htl))).2 hb' hjl
     ·cases hq
   obtain⟨ha',b',hb',hne,ea⟩:=ep
   have hkw:1+k%(c.W-1)<c.W:=by have:=Nat.mod_lt k (show 0<c.W-1 by omega);omega
   have hbt:b'≠t.h:=fun e=>R.zT htl (List.mem_of_getElem? hb') htl e.symm
   rw[show nth zs' a=nth zs a from hfr a (by rw[ea];have:=az c b' (1+k%(c.W-1));omega) (fun e=>hbt (ak (c:=c) hkw (by omega) (ea▸e)).1) (fun e=>hne (ak (c:=c) hkw (by omega) (ea▸e)).1) (fun e=>hne (ak (c:=c) hkw (by omega) (ea▸e)).1)]
   exact R.sZ t htl k a hk ha'
  ·obtain⟨q,hq,ea,hqm,q1,q2,q3⟩:=oG hm hk ha
   have hx:∀y,y∈t.ob.blocks→q.1≠y:=fun y hy e=>hne (congrArg Ob.h (R.heap.own (R.obMem h) (R.obMem htl) hqm (by rw[e];exact hy)))
   have h1:q.1≠t.h:=hx t.h t.ob.dM
   have h2:q.1≠b:=hx b hbb
   rw[show nth zs' a=nth zs a from hfr a (by rw[ea];have:=az c q.1 q.2;omega) (fun e=>h1 (ak (c:=c) q2 (by omega) (ea▸e)).1) (fun e=>h2 (ak (c:=c) q2 (by omega) (ea▸e)).1) (fun e=>h2 (ak (c:=c) q2 (by omega) (ea▸e)).1)]
   exact R.sZ s h k a hk ha
 ·obtain⟨u,hu,rfl⟩:=R.uz hm hx
  exact⟨hhd u hu 6 (by omega),hhd u hu 7 (by omega)⟩
 ·by_cases e:x=b
  ·rw[e,hb0];exact iJ.1
  ·rw[htag x e];exact R.ring.tok x hx
 ·rw[htag x (fun e=>hbr (e▸hx))];exact R.ring.hd x hx
 ·by_cases e:x=b
  ·subst e
   rw[hb0,iJ.2.1]
   exact⟨fun h=>absurd h (by decide),fun h=>absurd h hbr⟩
  ·rw[htag x e];exact R.ring.mrk x hx
 ·obtain⟨g,hg,e⟩:=List.mem_map.1 hx
  obtain⟨u,hu,e2⟩:=R.gv g hg
  rw[gB,show x=u.h by omega]
  exact hhd u hu 5 (by omega)
 ·obtain⟨u,hu,e⟩:=R.gv g hg
  refine⟨if u.h=t.h then {u with lv:=u.lv.set j (-1)} else u,by rw[hlive];exact List.mem_map.2 ⟨u,hu,rfl⟩,?_⟩
  split<;>exact e
 ·obtain⟨u,hu,e1,e2⟩:=hh s hs
  have hg':u.h+1∈D.grave:=by rw[←e1];exact hg
  rw[e1,e2,hhd u hu 6 (by omega),hhd u hu 7 (by omega)]
  exact R.bur u hu hg'
theorem au.ended(R:au c zs D)(hm:c.May)(hf:D.find r=some t)(hn:t.h∉D.ring)(hg:t.h+1∉D.grave)(H:af c zs' (t.h::D.clean) (D.obs.filter (fun x=>x.h !=t.ob.h)))
  (hfr:∀i,¬i<3→i≠adr c t.h 0→i≠adr c t.h 5→nth zs' i=nth zs i):au c zs' (D.endAt r t.h):=by
 have hw:=hm.w
 obtain⟨htl,hr⟩:=find_live hf
 have hlive:(D.endAt r t.h).live=D.live.filter (fun s=>s.h !=t.h):=live_upd_end (g:=fun s=>{s with ended:=true}) (fun _=>rfl) R.nodup hf
 have hobs:(D.endAt r t.h).obs=D.obs.filter (fun x=>x.h !=t.ob.h):=by
  unfold Wd.obs
  rw[hlive,List.filter_map]
  rfl
 have hmem:∀s,s∈(D.endAt r t.h).live→s∈D.live∧s.h≠t.h:=fun s hs=>by
  rw[hlive] at hs
  have:=List.mem_filter.1 hs
  exact⟨this.1,by simpa using this.2⟩
 have hne:∀b v,v<c.W→b≠t.h→nth zs' (adr c b v)=nth zs (adr c b v):=fun b v hv hb=>hfr _ (by have:=az c b v;omega) (fun e=>hb (ak (c:=c) hv (by omega) e).1) (fun e=>hb (ak (c:=c) hv (by omega) e).1)
 have hreg:∀k,3≤k→k<24→nth zs' k=nth zs k:=fun k h3 hk=>hfr k (by omega) (by have:=az c t.h 0;omega) (by have:=az c t.h 5;omega)
 have h0:nth zs' (adr c t.h 0)=0:=H.pl.fr t.h (by simp)
 have hrne:∀x,x∈D.ring→x≠t.h:=fun x hx e=>hn (e▸hx)
 refine⟨R.n,R.w,by rw[hobs];exact H,fun s hs=> ?_,fun s hs k a hk ha=> ?_,⟨by rw[hreg 7 (by omega) (by omega)];exact R.ring.r7,by rw[hreg 8 (by omega) (by omega)];exact R.ring.r8,by rw[hreg 9 (by omega) (by omega)];exact R.ring.r9,R.ring.lt,R.ring.nd,R.ring.seg.congr (fun x hx=>⟨hne x 6 (by omega) (hrne x hx),hne x 7 (by omega) (hrne x hx)⟩),fun x hx=> ?_,fun x hx=> ?_,fun x hx=> ?_⟩,R.grave.congr (hreg _ (by omega) (by omega)) (hreg _ (by omega) (by omega)) (hreg _ (by omega) (by omega)) (fun x hx=> ?_),by rw[hreg 6 (by omega) (by omega)];exact R.r6,fun k h1 h2=>by rw[hreg k (by omega) (by omega)];exact R.reg k h1 h2,R.par,fun g hg'=> ?_,fun s hs hg'=> ?_⟩
 ·obtain⟨h1,h2⟩:=hmem s hs
  obtain⟨a1,a2,a3,a4,a5,a6⟩:=R.own s h1
  constructor<;>rw[hne s.h _ (by omega) h2]<;>assumption
 ·obtain⟨h1,h2⟩:=hmem s hs
  obtain⟨q,hq,ea,hqm,q1,q2,q3⟩:=oG hm hk ha
  have:q.1≠t.h:=fun e=>h2 (congrArg Ob.h (R.heap.own (R.obMem h1) (R.obMem htl) hqm (by rw[e];exact t.ob.dM)))
  rw[ea,hne _ _ q2 this,←ea]
  exact R.sZ s h1 k a hk ha
 ·by_cases e:x=t.h
  ·rw[e,h0];exact iJ.1
  ·rw[hne x 0 (by omega) e];exact R.ring.tok x hx
 ·rw[hne x 0 (by omega) (hrne x hx)];exact R.ring.hd x hx
 ·by_cases e:x=t.h
  ·subst e
   rw[h0,iJ.2.1]
   exact⟨fun h=>absurd h (by decide),fun h=>absurd h hn⟩
  ·rw[hne x 0 (by omega) e];exact R.ring.mrk x hx
 ·obtain⟨g,hg',e⟩:=List.mem_map.1 hx
  obtain⟨u,hu,e2⟩:=R.gv g hg'
  rw[gB]
  refine hne x 5 (by omega) (fun ex=>hg ?_)
  have:t.h+1=g:=by omega
  rw[this];exact hg'
 ·obtain⟨u,hu,e⟩:=R.gv g hg'
  have hne':(u.h !=t.h)=true:=by
   simp
   intro ex
   exact hg (by rw[←ex,e];exact hg')
  exact⟨u,by rw[hlive];exact List.mem_filter.2 ⟨hu,hne'⟩,e⟩
 ·obtain⟨h1,h2⟩:=hmem s hs
  rw[hne s.h 6 (by omega) h2,hne s.h 7 (by omega) h2]
  exact R.bur s h1 hg'
end
end Go.Proofs.YtjmifnljckmimaaGreat.Pk
