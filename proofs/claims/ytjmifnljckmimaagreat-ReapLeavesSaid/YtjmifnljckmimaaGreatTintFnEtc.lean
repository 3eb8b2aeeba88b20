/-
  Texts laid together: TintFn, TintFn2, TintFn3.
-/
import Derived.Test.YtjmifnljckmimaaGreatRingFnEtc
import Derived.Test.YtjmifnljckmimaaGreatRefMkEtc
import Derived.Test.YtjmifnljckmimaaGreatObjFn4Etc
import Derived.Test.YtjmifnljckmimaaGreatRingFn2Etc
import Derived.Deep.RegionHeld3
import Derived.Deep.RegionWith
import Derived.BigRegion
namespace Go.Proofs.YtjmifnljckmimaaGreat.Pk
open Lib (hid)
open Go.RowKit
set_option linter.unusedVariables false
set_option linter.unusedSimpArgs false
set_option maxRecDepth 100000
theorem Li{x y:Int}(h0:0≤x)(h1:x≤4294967295)(g0:0≤y)(g1:y≤4294967295):bits .or .u32 (bits .andNot .u32 x x) y=y:=by
 rw[IV h0 h1,ND g0 g1]
section
variable {p:Pl} {c:Cf} {s:St} {pool:List Nat} {os:List Ob} {o:Ob} {r:Int} {w:World}
theorem lL(hG:G w p c s)(H:ah c s.zs pool os)(ho:o∈os):Calls Tryz.prog 49 #[.pointer (some ⟨p.a,0,none⟩),.int .i64 ((o.h:Int)+1)] w (GP w p c ⟨s.zs,s.m+1⟩ (.bool true)):=by
 have hA:=H.obs o ho
 have hm:=hG.may
 have hW:=hm.w
 have h:=vU hG ((o.h:Int)+1)
 rw[Pv H hm (H.vH hm ho),H.dJ ho,uI hm hA.hlt,show aB c (o.h:Int) 0=some (adr c o.h 0) from fQ hA.hlt (v:=0) (by omega)] at h
 exact h
theorem Eo(hG:G w p c s)(H:ah c s.zs pool os)(hr:In64 r)(ho:dJ os r=none):Calls Tryz.prog 49 #[.pointer (some ⟨p.a,0,none⟩),.int .i64 r] w (GP w p c ⟨s.zs,s.m+dF (aB c (prev r) 0)⟩ (.bool false)):=by
 have h:=vU hG r
 rw[Pv H hG.may hr,ho,Nat.one_mul] at h
 exact h
theorem aZ(hG:G w p c s)(y:Int)(hy:nth s.zs 10=y):Calls Tryz.prog 95 #[.pointer (some ⟨p.a,0,none⟩)] w (GP w p c ⟨s.zs,s.m+1⟩ (.int .i64 y)):=by
 have HG:=hid hG
 have HY:=hid hy
 clear hG hy
 go_enter Tryz.func95,Tryz.ntmps95
 have HT0:Hid (Touch (inG p) w w):=hid (Touch.refl _ _)
 go_wp2_with fail
 refine(gQ p c s 10 _ y _ HG.out (by omega) rfl HY.out).mono ?_
 rintro e wm1 ⟨rfl,hG,hT⟩
 have HG1:=hid hG
 have HT1:Hid (Touch (inG p) _ wm1):=hid (HT0.out.trans hT)
 clear hG hT
 go_wp2_with fail
 go_ret
 exact⟨rfl,HG1.out,HT1.out⟩
theorem bQ(hG:G w p c s)(y:Int)(hy:nth s.zs 11=y):Calls Tryz.prog 48 #[.pointer (some ⟨p.a,0,none⟩)] w (GP w p c ⟨s.zs,s.m+1⟩ (.int .i64 y)):=by
 have HG:=hid hG
 have HY:=hid hy
 clear hG hy
 go_enter Tryz.func48,Tryz.ntmps48
 have HT0:Hid (Touch (inG p) w w):=hid (Touch.refl _ _)
 go_wp2_with fail
 refine(gQ p c s 11 _ y _ HG.out (by omega) rfl HY.out).mono ?_
 rintro e wm1 ⟨rfl,hG,hT⟩
 have HG1:=hid hG
 have HT1:Hid (Touch (inG p) _ wm1):=hid (HT0.out.trans hT)
 clear hG hT
 go_wp2_with fail
 go_ret
 exact⟨rfl,HG1.out,HT1.out⟩
theorem Ow(hG:G w p c s)(y:Int)(hy:nth s.zs 10=y)(h01:y=0∨y=1):Calls Tryz.prog 37 #[.pointer (some ⟨p.a,0,none⟩)] w (GP w p c ⟨s.zs.set 10 (1-y),s.m+2⟩ (.tuple #[])):=by
 have HG:=hid hG
 have HY:=hid hy
 have hw:IntKind.i64.wrap (1-y)=1-y:=IntWalk.i64_in _ (by omega)
 have H0:Hid (0≤1-y):=hid (by omega)
 have H1:Hid (1-y≤4294967295):=hid (by omega)
 clear hG hy h01
 go_enter Tryz.func37,Tryz.ntmps37
 have HT0:Hid (Touch (inG p) w w):=hid (Touch.refl _ _)
 go_wp2_with fail
 refine(aZ HG.out y HY.out).mono ?_
 rintro e wm1 ⟨rfl,hG,hT⟩
 have HG1:=hid hG
 have HT1:Hid (Touch (inG p) _ wm1):=hid (HT0.out.trans hT)
 clear hG hT
 go_wp2_with fail
 refine(aO p c _ 10 _ (1-y) _ HG1.out (by omega) rfl H0.out H1.out).mono ?_
 rintro e wm2 ⟨rfl,hG,hT⟩
 have HG2:=hid hG
 have HT2:Hid (Touch (inG p) _ wm2):=hid (HT1.out.trans hT)
 clear hG hT
 go_wp2_with fail
 go_end0
 exact⟨rfl,HG2.out,HT2.out⟩
theorem Hu(hG:G w p c s)(y z:Int)(hy:nth s.zs 12=y)(hz:nth s.zs 13=z):Calls Tryz.prog 47 #[.pointer (some ⟨p.a,0,none⟩)] w (GP w p c ⟨s.zs,s.m+2⟩ (.tuple #[.int .i64 y,.int .i64 z])):=by
 have HG:=hid hG
 have HY:=hid hy
 have HZ:=hid hz
 clear hG hy hz
 go_enter Tryz.func47,Tryz.ntmps47
 have HT0:Hid (Touch (inG p) w w):=hid (Touch.refl _ _)
 go_wp2_with fail
 refine(gQ p c s 12 _ y _ HG.out (by omega) rfl HY.out).mono ?_
 rintro e wm1 ⟨rfl,hG,hT⟩
 have HG1:=hid hG
 have HT1:Hid (Touch (inG p) _ wm1):=hid (HT0.out.trans hT)
 clear hG hT
 go_wp2_with fail
 refine(gQ p c _ 13 _ z _ HG1.out (by omega) rfl HZ.out).mono ?_
 rintro e wm2 ⟨rfl,hG,hT⟩
 have HG2:=hid hG
 have HT2:Hid (Touch (inG p) _ wm2):=hid (HT1.out.trans hT)
 clear hG hT
 go_wp2_with fail
 go_ret2
 exact⟨rfl,HG2.out,HT2.out⟩
theorem rC(v:Int)(w:World):Calls Tryz.prog 112 #[.int .i64 v] w fun e w'=>e=.returned (.bool (decide (0≤v∧v≤4294967295)))∧w=w':=by
 by_cases h0:0≤v
 ·have E:Hid (decide (v≤4294967295)=decide (0≤v∧v≤4294967295)):=hid (by simp[h0])
  go_enter Tryz.func112,Tryz.ntmps112
  go_wp2_with fail
  go_ret
  exact⟨aH E.out,rfl⟩
 ·have E:Hid (false=(decide (0≤v)&&decide (v≤4294967295))):=hid (by simp[h0])
  go_enter Tryz.func112,Tryz.ntmps112
  go_wp2_with fail
  go_ret
  exact⟨aH E.out,rfl⟩
theorem Ee(hG:G w p c s)(y:Int)(h:phB y=false):Calls Tryz.prog 21 #[.pointer (some ⟨p.a,0,none⟩),.int .i64 y] w (GP w p c s (.bool false)):=by
 have HG:=hid hG
 unfold phB at h
 simp only[decide_eq_false_iff_not] at h
 clear hG
 by_cases h0:y<0
 ·clear h
  go_enter Tryz.func21,Tryz.ntmps21
  have HT0:Hid (Touch (inG p) w w):=hid (Touch.refl _ _)
  go_wp2_with fail
  go_ret
  exact⟨rfl,HG.out,HT0.out⟩
 ·have h1:3<y:=by omega
  clear h
  go_enter Tryz.func21,Tryz.ntmps21
  have HT0:Hid (Touch (inG p) w w):=hid (Touch.refl _ _)
  go_wp2_with fail
  go_ret
  exact⟨rfl,HG.out,HT0.out⟩
theorem Ba(hG:G w p c s)(y:Int)(h:phB y=true):Calls Tryz.prog 21 #[.pointer (some ⟨p.a,0,none⟩),.int .i64 y] w (GP w p c ⟨((((s.zs.set 11 y).set 12 0).set 13 0).set 14 0).set 15 0,s.m+5⟩ (.bool true)):=by
 have HG:=hid hG
 unfold phB at h
 simp only[decide_eq_true_eq] at h
 have h0:¬y<0:=by omega
 have h1:¬3<y:=by omega
 have H0:Hid (0≤y):=hid (by omega)
 have H1:Hid (y≤4294967295):=hid (by omega)
 clear hG h
 go_enter Tryz.func21,Tryz.ntmps21
 have HT0:Hid (Touch (inG p) w w):=hid (Touch.refl _ _)
 go_wp2_with fail
 refine(aO p c _ 11 _ y _ HG.out (by omega) rfl H0.out H1.out).mono ?_
 rintro e wm1 ⟨rfl,hG,hT⟩
 have HG1:=hid hG
 have HT1:Hid (Touch (inG p) _ wm1):=hid (HT0.out.trans hT)
 clear hG hT
 go_wp2_with fail
 refine wp_loop_rounds 5 ?_
 rw[rounds_succ]
 go_wp2_with fail
 refine(aO p c _ 12 _ 0 _ HG1.out (by omega) rfl (by omega) (by omega)).mono ?_
 rintro e wm2 ⟨rfl,hG,hT⟩
 have HG2:=hid hG
 have HT2:Hid (Touch (inG p) _ wm2):=hid (HT1.out.trans hT)
 clear hG hT
 go_wp2_with fail
 rw[rounds_succ]
 go_wp2_with fail
 refine(aO p c _ 13 _ 0 _ HG2.out (by omega) rfl (by omega) (by omega)).mono ?_
 rintro e wm3 ⟨rfl,hG,hT⟩
 have HG3:=hid hG
 have HT3:Hid (Touch (inG p) _ wm3):=hid (HT2.out.trans hT)
 clear hG hT
 go_wp2_with fail
 rw[rounds_succ]
 go_wp2_with fail
 refine(aO p c _ 14 _ 0 _ HG3.out (by omega) rfl (by omega) (by omega)).mono ?_
 rintro e wm4 ⟨rfl,hG,hT⟩
 have HG4:=hid hG
 have HT4:Hid (Touch (inG p) _ wm4):=hid (HT3.out.trans hT)
 clear hG hT
 go_wp2_with fail
 rw[rounds_succ]
 go_wp2_with fail
 refine(aO p c _ 15 _ 0 _ HG4.out (by omega) rfl (by omega) (by omega)).mono ?_
 rintro e wm5 ⟨rfl,hG,hT⟩
 have HG5:=hid hG
 have HT5:Hid (Touch (inG p) _ wm5):=hid (HT4.out.trans hT)
 clear hG hT
 go_wp2_with fail
 rw[rounds_succ]
 go_wp2_with fail
 go_ret
 exact⟨rfl,HG5.out,HT5.out⟩
theorem Gb(hG:G w p c s)(y z:Int)(h:Lc y z=false):Calls Tryz.prog 53 #[.pointer (some ⟨p.a,0,none⟩),.int .i64 y,.int .i64 z] w (GP w p c s (.bool false)):=by
 have HG:=hid hG
 unfold Lc at h
 simp only[decide_eq_false_iff_not] at h
 clear hG
 by_cases h0:0≤y∧y≤4294967295
 ·have H0:Hid (decide (0≤y∧y≤4294967295)=true):=hid (decide_eq_true h0)
  have H1:Hid (decide (0≤z∧z≤4294967295)=false):=hid (decide_eq_false (fun k=>h ⟨h0,k⟩))
  clear h h0
  go_enter Tryz.func53,Tryz.ntmps53
  have HT0:Hid (Touch (inG p) w w):=hid (Touch.refl _ _)
  go_wp2_with fail
  refine(rC y _).mono ?_
  rw[H0.out]
  rintro e wm0 ⟨rfl,rfl⟩
  go_wp2_with fail
  refine(rC z _).mono ?_
  rw[H1.out]
  rintro e wm0 ⟨rfl,rfl⟩
  go_wp2_with fail
  go_ret
  exact⟨rfl,HG.out,HT0.out⟩
 ·have H0:Hid (decide (0≤y∧y≤4294967295)=false):=hid (decide_eq_false h0)
  clear h h0
  go_enter Tryz.func53,Tryz.ntmps53
  have HT0:Hid (Touch (inG p) w w):=hid (Touch.refl _ _)
  go_wp2_with fail
  refine(rC y _).mono ?_
  rw[H0.out]
  rintro e wm0 ⟨rfl,rfl⟩
  go_wp2_with fail
  go_ret
  exact⟨rfl,HG.out,HT0.out⟩
theorem Ei(hG:G w p c s)(y z:Int)(h:Lc y z=true):Calls Tryz.prog 53 #[.pointer (some ⟨p.a,0,none⟩),.int .i64 y,.int .i64 z] w (GP w p c ⟨(s.zs.set 12 y).set 13 z,s.m+2⟩ (.bool true)):=by
 have HG:=hid hG
 unfold Lc at h
 simp only[decide_eq_true_eq] at h
 have H0:Hid (decide (0≤y∧y≤4294967295)=true):=hid (decide_eq_true h.1)
 have H1:Hid (decide (0≤z∧z≤4294967295)=true):=hid (decide_eq_true h.2)
 have HH:=hid h
 clear hG h
 go_enter Tryz.func53,Tryz.ntmps53
 have HT0:Hid (Touch (inG p) w w):=hid (Touch.refl _ _)
 go_wp2_with fail
 refine(rC y _).mono ?_
 rw[H0.out]
 rintro e wm0 ⟨rfl,rfl⟩
 go_wp2_with fail
 refine(rC z _).mono ?_
 rw[H1.out]
 rintro e wm0 ⟨rfl,rfl⟩
 go_wp2_with fail
 refine(aO p c _ 12 _ y _ HG.out (by omega) rfl HH.out.1.1 HH.out.1.2).mono ?_
 rintro e wm1 ⟨rfl,hG,hT⟩
 have HG1:=hid hG
 have HT1:Hid (Touch (inG p) _ wm1):=hid (HT0.out.trans hT)
 clear hG hT
 go_wp2_with fail
 refine(aO p c _ 13 _ z _ HG1.out (by omega) rfl HH.out.2.1 HH.out.2.2).mono ?_
 rintro e wm2 ⟨rfl,hG,hT⟩
 have HG2:=hid hG
 have HT2:Hid (Touch (inG p) _ wm2):=hid (HT1.out.trans hT)
 clear hG hT
 go_wp2_with fail
 go_ret
 exact⟨rfl,HG2.out,HT2.out⟩
theorem oU(hG:G w p c s)(H:ah c s.zs pool os)(hr:In64 r)(ho:dJ os r=none):Calls Tryz.prog 109 #[.pointer (some ⟨p.a,0,none⟩),.int .i64 r] w (GP w p c ⟨s.zs,s.m+dF (aB c (prev r) 0)⟩ (.tuple #[.agg #[.int .i64 0,.int .i64 0,.int .i64 0,.int .i64 0,.int .i64 0,.int .i64 0,.int .i64 0],.bool false])):=by
 have HI:=hid (fun(w':World) (hG':G w' p c s)=>Eo hG' H hr ho)
 have HG:=hid (hG.alloc (.cells #[.int .i64 0,.int .i64 0,.int .i64 0,.int .i64 0,.int .i64 0,.int .i64 0,.int .i64 0] 144))
 have BR:=hid (Blk.new w #[.int .i64 0,.int .i64 0,.int .i64 0,.int .i64 0,.int .i64 0,.int .i64 0,.int .i64 0] 144)
 have HTa:Hid (Touch (inG p) w (w.alloc (.cells #[.int .i64 0,.int .i64 0,.int .i64 0,.int .i64 0,.int .i64 0,.int .i64 0,.int .i64 0] 144))):=hid (Touch.of_below (below_new w _))
 have NO:Hid (∀i,w.heap.size≤i→¬jf p i):=hid (fun i hi hx=>by have:=hG.dW hx;omega)
 clear hG H hr ho
 go_enter Tryz.func109,Tryz.ntmps109
 go_wp2_with fail
 generalize w.alloc (.cells #[.int .i64 0,.int .i64 0,.int .i64 0,.int .i64 0,.int .i64 0,.int .i64 0,.int .i64 0] 144)=w0 at*
 have HT0:Hid (Touch (inG p) w0 w0):=hid (Touch.refl _ _)
 refine(HI.out _ HG.out).mono ?_
 rintro e wm1 ⟨rfl,hG,hT⟩
 have HG1:=hid hG
 have HT1:Hid (Touch (inG p) _ wm1):=hid (HT0.out.trans hT)
 have BR1:=hid (BR.out.touch hT (fun hx=>NO.out _ (Nat.le_refl _) (Or.inr hx)))
 clear hG hT
 have f0:=BR1.out.free 0
 have r0:=BR1.out.cell 0 rfl
 have f1:=BR1.out.free 1
 have r1:=BR1.out.cell 1 rfl
 have f2:=BR1.out.free 2
 have r2:=BR1.out.cell 2 rfl
 have f3:=BR1.out.free 3
 have r3:=BR1.out.cell 3 rfl
 have f4:=BR1.out.free 4
 have r4:=BR1.out.cell 4 rfl
 have f5:=BR1.out.free 5
 have r5:=BR1.out.cell 5 rfl
 have f6:=BR1.out.free 6
 have r6:=BR1.out.cell 6 rfl
 go_wp2_with fail
 exact bodyPost_ret (v:=.tuple #[.agg #[.int .i64 0,.int .i64 0,.int .i64 0,.int .i64 0,.int .i64 0,.int .i64 0,.int .i64 0],.bool false]) (by simp[results,Tryz.results109,go_sem,r0,r1,r2,r3,r4,r5,r6]) rfl ⟨rfl,HG1.out.touch (X:=fun i=>w.heap.size≤i) ((((((((Touch.refl _ _).setCell (p:=⟨w.heap.size,0,none⟩) (fun _=>Nat.le_refl _) _).setCell (p:=⟨w.heap.size,1,none⟩) (fun _=>Nat.le_refl _) _).setCell (p:=⟨w.heap.size,2,none⟩) (fun _=>Nat.le_refl _) _).setCell (p:=⟨w.heap.size,3,none⟩) (fun _=>Nat.le_refl _) _).setCell (p:=⟨w.heap.size,4,none⟩) (fun _=>Nat.le_refl _) _).setCell (p:=⟨w.heap.size,5,none⟩) (fun _=>Nat.le_refl _) _).setCell (p:=⟨w.heap.size,6,none⟩) (fun _=>Nat.le_refl _) _) (fun i hi e=>NO.out i e hi),((((((((HTa.out.trans HT1.out).setCell (p:=⟨w.heap.size,0,none⟩) (fun h=>absurd h (Nat.lt_irrefl _)) _).setCell (p:=⟨w.heap.size,1,none⟩) (fun h=>absurd h (Nat.lt_irrefl _)) _).setCell (p:=⟨w.heap.size,2,none⟩) (fun h=>absurd h (Nat.lt_irrefl _)) _).setCell (p:=⟨w.heap.size,3,none⟩) (fun h=>absurd h (Nat.lt_irrefl _)) _).setCell (p:=⟨w.heap.size,4,none⟩) (fun h=>absurd h (Nat.lt_irrefl _)) _).setCell (p:=⟨w.heap.size,5,none⟩) (fun h=>absurd h (Nat.lt_irrefl _)) _).setCell (p:=⟨w.heap.size,6,none⟩) (fun h=>absurd h (Nat.lt_irrefl _)) _)⟩
theorem fE(hG:G w p c s)(H:ah c s.zs pool os)(ho:o∈os)(x:Int)(hx:nth s.zs (adr c o.h 0)=x):Calls Tryz.prog 109 #[.pointer (some ⟨p.a,0,none⟩),.int .i64 ((o.h:Int)+1)] w (GP w p c ⟨s.zs,s.m+2⟩ (.tuple #[.agg #[.int .i64 (uK x),.int .i64 (uC x),.int .i64 (uN x),.int .i64 (uS x),.int .i64 (uD x),.int .i64 (uG x),.int .i64 (uO x)],.bool true])):=by
 have HI:=hid (fun(w':World) (hG':G w' p c s)=>lL hG' H ho)
 have HG:=hid (hG.alloc (.cells #[.int .i64 0,.int .i64 0,.int .i64 0,.int .i64 0,.int .i64 0,.int .i64 0,.int .i64 0] 144))
 have BR:=hid (Blk.new w #[.int .i64 0,.int .i64 0,.int .i64 0,.int .i64 0,.int .i64 0,.int .i64 0,.int .i64 0] 144)
 have HTa:Hid (Touch (inG p) w (w.alloc (.cells #[.int .i64 0,.int .i64 0,.int .i64 0,.int .i64 0,.int .i64 0,.int .i64 0,.int .i64 0] 144))):=hid (Touch.of_below (below_new w _))
 have NO:Hid (∀i,w.heap.size≤i→¬jf p i):=hid (fun i hi hx=>by have:=hG.dW hx;omega)
 have hA:=H.obs o ho
 have hW:=hG.may.w
 have HB:=hid hA.hlt
 have HV:Hid (0<c.W):=hid (by omega)
 have HX:=hid hx
 have e1:=bR hG.may hA.hlt
 have hbd:=hA.tok.bd
 rw[hx] at hbd
 have HN0:Hid (0≤x):=hid hbd.1
 have HN1:Hid (x≤4294967295):=hid (by omega)
 clear hG H ho hA hW hx hbd
 go_enter Tryz.func109,Tryz.ntmps109
 go_wp2_with fail
 generalize w.alloc (.cells #[.int .i64 0,.int .i64 0,.int .i64 0,.int .i64 0,.int .i64 0,.int .i64 0,.int .i64 0] 144)=w0 at*
 have HT0:Hid (Touch (inG p) w0 w0):=hid (Touch.refl _ _)
 refine(HI.out _ HG.out).mono ?_
 rintro e wm1 ⟨rfl,hG,hT⟩
 have HG1:=hid hG
 have HT1:Hid (Touch (inG p) _ wm1):=hid (HT0.out.trans hT)
 have BR1:=hid (BR.out.touch hT (fun hx=>NO.out _ (Nat.le_refl _) (Or.inr hx)))
 clear hG hT
 go_wp2_with fail
 refine(fq p c _ o.h 0 _ _ x _ HG1.out HB.out HV.out rfl rfl HX.out).mono ?_
 rintro e wm2 ⟨rfl,hG,hT⟩
 have HG2:=hid hG
 have HT2:Hid (Touch (inG p) _ wm2):=hid (HT1.out.trans hT)
 have BR2:=hid (BR1.out.touch hT (fun hx=>NO.out _ (Nat.le_refl _) (Or.inr hx)))
 clear hG hT
 go_wp2_with fail
 refine(dh x _ HN0.out HN1.out).mono ?_
 rintro e wm3 ⟨rfl,hb⟩
 have HG3:=hid (HG2.out.later hb)
 have HT3:Hid (Touch (inG p) _ wm3):=hid (HT2.out.trans (Touch.of_below hb))
 have BR3:=hid (BR2.out.later hb)
 clear hb
 have f0:=BR3.out.free 0
 have r0:=BR3.out.cell 0 rfl
 have f1:=BR3.out.free 1
 have r1:=BR3.out.cell 1 rfl
 have f2:=BR3.out.free 2
 have r2:=BR3.out.cell 2 rfl
 have f3:=BR3.out.free 3
 have r3:=BR3.out.cell 3 rfl
 have f4:=BR3.out.free 4
 have r4:=BR3.out.cell 4 rfl
 have f5:=BR3.out.free 5
 have r5:=BR3.out.cell 5 rfl
 have f6:=BR3.out.free 6
 have r6:=BR3.out.cell 6 rfl
 go_wp2_with fail
 exact bodyPost_ret (v:=.tuple #[.agg #[.int .i64 (uK x),.int .i64 (uC x),.int .i64 (uN x),.int .i64 (uS x),.int .i64 (uD x),.int .i64 (uG x),.int .i64 (uO x)],.bool true]) (by simp[results,Tryz.results109,go_sem,r0,r1,r2,r3,r4,r5,r6]) rfl ⟨rfl,HG3.out.touch (X:=fun i=>w.heap.size≤i) ((((((((Touch.refl _ _).setCell (p:=⟨w.heap.size,0,none⟩) (fun _=>Nat.le_refl _) _).setCell (p:=⟨w.heap.size,1,none⟩) (fun _=>Nat.le_refl _) _).setCell (p:=⟨w.heap.size,2,none⟩) (fun _=>Nat.le_refl _) _).setCell (p:=⟨w.heap.size,3,none⟩) (fun _=>Nat.le_refl _) _).setCell (p:=⟨w.heap.size,4,none⟩) (fun _=>Nat.le_refl _) _).setCell (p:=⟨w.heap.size,5,none⟩) (fun _=>Nat.le_refl _) _).setCell (p:=⟨w.heap.size,6,none⟩) (fun _=>Nat.le_refl _) _) (fun i hi e=>NO.out i e hi),((((((((HTa.out.trans HT3.out).setCell (p:=⟨w.heap.size,0,none⟩) (fun h=>absurd h (Nat.lt_irrefl _)) _).setCell (p:=⟨w.heap.size,1,none⟩) (fun h=>absurd h (Nat.lt_irrefl _)) _).setCell (p:=⟨w.heap.size,2,none⟩) (fun h=>absurd h (Nat.lt_irrefl _)) _).setCell (p:=⟨w.heap.size,3,none⟩) (fun h=>absurd h (Nat.lt_irrefl _)) _).setCell (p:=⟨w.heap.size,4,none⟩) (fun h=>absurd h (Nat.lt_irrefl _)) _).setCell (p:=⟨w.heap.size,5,none⟩) (fun h=>absurd h (Nat.lt_irrefl _)) _).setCell (p:=⟨w.heap.size,6,none⟩) (fun h=>absurd h (Nat.lt_irrefl _)) _)⟩
end
theorem Touch.newer{X:Nat→Prop}{a w w':World}{b:Nat}(h:Touch X a w)(t:Touch (fun i=>i=b) w w')(hb:a.heap.size≤b):Touch X a w':=by
 have h1:Touch (fun i=>X i∨i=b) a w:=h.mono (fun _ _ h=>.inl h)
 have h2:Touch (fun i=>X i∨i=b) w w':=t.mono (fun _ _ h=>.inr h)
 exact(h1.trans h2).mono (fun k hk hx=>by rcases hx with hx|rfl;exact hx;omega)
theorem Mi(k c n s d g P:Int)(q b:Nat)(w:World)(hq:Blk w q #[.int .i64 P] 3)(hne:q≠b)(hb:Blk w b #[.int .i64 k,.int .i64 c,.int .i64 n,.int .i64 s,.int .i64 d,.int .i64 g,.int .i64 0] 144):Calls Tryz.prog 114 #[.pointer (some ⟨b,0,none⟩),.pointer (some ⟨q,0,none⟩)] w fun e w'=>e=.returned (.bool true)∧Blk w' b #[.int .i64 k,.int .i64 P,.int .i64 n,.int .i64 s,.int .i64 d,.int .i64 g,.int .i64 0] 144∧Touch (fun i=>i=b) w w':=by
 have q0:=hq.cell 0 rfl
 have c1:=hb.cell 1 rfl
 have f1:=hb.free 1
 have c2:=hb.cell 2 rfl
 have f2:=hb.free 2
 have c3:=hb.cell 3 rfl
 have f3:=hb.free 3
 have c4:=hb.cell 4 rfl
 have f4:=hb.free 4
 have HB:=hid hb
 clear hb hq
 go_enter Tryz.func114,Tryz.ntmps114
 go_wp2_with fail
 go_ret
 exact⟨rfl,HB.out.put 1 (.int .i64 P) rfl,(Touch.refl (fun i=>i=b) w).setCell (p:=⟨b,1,none⟩) (fun _=>rfl) _⟩
theorem Jo(k c n s d g P:Int)(q b:Nat)(w:World)(hq:Blk w q #[.int .i64 P] 3)(hne:q≠b)(hb:Blk w b #[.int .i64 k,.int .i64 c,.int .i64 n,.int .i64 s,.int .i64 d,.int .i64 g,.int .i64 0] 144):Calls Tryz.prog 214 #[.pointer (some ⟨b,0,none⟩),.pointer (some ⟨q,0,none⟩)] w fun e w'=>e=.returned (.bool true)∧Blk w' b #[.int .i64 k,.int .i64 c,.int .i64 n,.int .i64 P,.int .i64 d,.int .i64 g,.int .i64 0] 144∧Touch (fun i=>i=b) w w':=by
 have q0:=hq.cell 0 rfl
 have c1:=hb.cell 1 rfl
 have f1:=hb.free 1
 have c2:=hb.cell 2 rfl
 have f2:=hb.free 2
 have c3:=hb.cell 3 rfl
 have f3:=hb.free 3
 have c4:=hb.cell 4 rfl
 have f4:=hb.free 4
 have HB:=hid hb
 clear hb hq
 go_enter Tryz.func214,Tryz.ntmps214
 go_wp2_with fail
 go_ret
 exact⟨rfl,HB.out.put 3 (.int .i64 P) rfl,(Touch.refl (fun i=>i=b) w).setCell (p:=⟨b,3,none⟩) (fun _=>rfl) _⟩
theorem Ou(k c n s d g P:Int)(q b:Nat)(w:World)(hq:Blk w q #[.int .i64 P] 3)(hne:q≠b)(hb:Blk w b #[.int .i64 k,.int .i64 c,.int .i64 n,.int .i64 s,.int .i64 d,.int .i64 g,.int .i64 0] 144):Calls Tryz.prog 182 #[.pointer (some ⟨b,0,none⟩),.pointer (some ⟨q,0,none⟩)] w fun e w'=>e=.returned (.bool true)∧Blk w' b #[.int .i64 k,.int .i64 c,.int .i64 P,.int .i64 s,.int .i64 d,.int .i64 g,.int .i64 0] 144∧Touch (fun i=>i=b) w w':=by
 have q0:=hq.cell 0 rfl
 have c1:=hb.cell 1 rfl
 have f1:=hb.free 1
 have c2:=hb.cell 2 rfl
 have f2:=hb.free 2
 have c3:=hb.cell 3 rfl
 have f3:=hb.free 3
 have c4:=hb.cell 4 rfl
 have f4:=hb.free 4
 have HB:=hid hb
 clear hb hq
 go_enter Tryz.func182,Tryz.ntmps182
 go_wp2_with fail
 go_ret
 exact⟨rfl,HB.out.put 2 (.int .i64 P) rfl,(Touch.refl (fun i=>i=b) w).setCell (p:=⟨b,2,none⟩) (fun _=>rfl) _⟩
theorem Ov(k c n s d g:Int)(b:Nat)(w:World)(hb:Blk w b #[.int .i64 k,.int .i64 c,.int .i64 n,.int .i64 s,.int .i64 d,.int .i64 g,.int .i64 0] 144)(hd:d=0):Calls Tryz.prog 176 #[.pointer (some ⟨b,0,none⟩)] w fun e w'=>e=.returned (.bool true)∧Blk w' b #[.int .i64 k,.int .i64 c,.int .i64 n,.int .i64 s,.int .i64 1,.int .i64 g,.int .i64 0] 144∧Touch (fun i=>i=b) w w':=by
 have c1:=hb.cell 1 rfl
 have f1:=hb.free 1
 have c2:=hb.cell 2 rfl
 have f2:=hb.free 2
 have c3:=hb.cell 3 rfl
 have f3:=hb.free 3
 have c4:=hb.cell 4 rfl
 have f4:=hb.free 4
 have HB:=hid hb
 clear hb
 subst hd
 go_enter Tryz.func176,Tryz.ntmps176
 go_wp2_with fail
 go_ret
 exact⟨rfl,HB.out.put 4 (.int .i64 1) rfl,(Touch.refl (fun i=>i=b) w).setCell (p:=⟨b,4,none⟩) (fun _=>rfl) _⟩
theorem FU(k c n s d g:Int)(b:Nat)(w:World)(hb:Blk w b #[.int .i64 k,.int .i64 c,.int .i64 n,.int .i64 s,.int .i64 d,.int .i64 g,.int .i64 0] 144)(hd:d=1):Calls Tryz.prog 176 #[.pointer (some ⟨b,0,none⟩)] w fun e w'=>e=.returned (.bool false)∧Blk w' b #[.int .i64 k,.int .i64 c,.int .i64 n,.int .i64 s,.int .i64 d,.int .i64 g,.int .i64 0] 144∧Touch (fun i=>i=b) w w':=by
 have c1:=hb.cell 1 rfl
 have f1:=hb.free 1
 have c2:=hb.cell 2 rfl
 have f2:=hb.free 2
 have c3:=hb.cell 3 rfl
 have f3:=hb.free 3
 have c4:=hb.cell 4 rfl
 have f4:=hb.free 4
 have HB:=hid hb
 clear hb
 subst hd
 go_enter Tryz.func176,Tryz.ntmps176
 go_wp2_with fail
 go_ret
 exact⟨rfl,HB.out,Touch.refl _ _⟩
theorem Qo(k c n s d g P:Int)(q b:Nat)(w:World)(hq:Blk w q #[.int .i64 P] 3)(hne:q≠b)(hb:Blk w b #[.int .i64 k,.int .i64 c,.int .i64 n,.int .i64 s,.int .i64 d,.int .i64 g,.int .i64 0] 144):Calls Tryz.prog 130 #[.pointer (some ⟨b,0,none⟩),.pointer (some ⟨q,0,none⟩)] w fun e w'=>e=.returned (.bool true)∧Blk w' b #[.int .i64 k,.int .i64 P,.int .i64 P,.int .i64 P,.int .i64 d,.int .i64 g,.int .i64 0] 144∧Touch (fun i=>i=b) w w':=by
 have q0:=hq.cell 0 rfl
 have c1:=hb.cell 1 rfl
 have f1:=hb.free 1
 have c2:=hb.cell 2 rfl
 have f2:=hb.free 2
 have c3:=hb.cell 3 rfl
 have f3:=hb.free 3
 have c4:=hb.cell 4 rfl
 have f4:=hb.free 4
 have HB:=hid hb
 clear hb hq
 go_enter Tryz.func130,Tryz.ntmps130
 go_wp2_with fail
 go_region
 go_wp2_with fail
 go_ret
 exact⟨rfl,(((HB.out.drew.put (cs':= #[.int .i64 k,.int .i64 P,.int .i64 n,.int .i64 s,.int .i64 d,.int .i64 g,.int .i64 0]) 1 (.int .i64 P) rfl).put (cs':= #[.int .i64 k,.int .i64 P,.int .i64 P,.int .i64 s,.int .i64 d,.int .i64 g,.int .i64 0]) 2 (.int .i64 P) rfl).put 3 (.int .i64 P) rfl),(((((Touch.refl (fun i=>i=b) w).drew).setCell (p:=⟨b,1,none⟩) (fun _=>rfl) _).setCell (p:=⟨b,2,none⟩) (fun _=>rfl) _).setCell (p:=⟨b,3,none⟩) (fun _=>rfl) _)⟩
theorem xX(k c n s d g P:Int)(q b:Nat)(w:World)(hq:Blk w q #[.int .i64 P] 3)(hne:q≠b)(hb:Blk w b #[.int .i64 k,.int .i64 c,.int .i64 n,.int .i64 s,.int .i64 d,.int .i64 g,.int .i64 0] 144)(hd:d=1):Calls Tryz.prog 157 #[.pointer (some ⟨b,0,none⟩),.pointer (some ⟨q,0,none⟩)] w fun e w'=>e=.returned (.bool false)∧Blk w' b #[.int .i64 k,.int .i64 c,.int .i64 n,.int .i64 s,.int .i64 d,.int .i64 g,.int .i64 0] 144∧Touch (fun i=>i=b) w w':=by
 have q0:=hq.cell 0 rfl
 have c1:=hb.cell 1 rfl
 have f1:=hb.free 1
 have c2:=hb.cell 2 rfl
 have f2:=hb.free 2
 have c3:=hb.cell 3 rfl
 have f3:=hb.free 3
 have c4:=hb.cell 4 rfl
 have f4:=hb.free 4
 have HB:=hid hb
 clear hb hq
 subst hd
 go_enter Tryz.func157,Tryz.ntmps157
 go_wp2_with fail
 go_quiet (fail)
 go_wp2_with fail
 go_ret
 exact⟨rfl,(HB.out.drewN _),(Touch.refl _ _).drewN _⟩
theorem wO(k c n s d g P:Int)(q b:Nat)(w:World)(hq:Blk w q #[.int .i64 P] 3)(hne:q≠b)(hb:Blk w b #[.int .i64 k,.int .i64 c,.int .i64 n,.int .i64 s,.int .i64 d,.int .i64 g,.int .i64 0] 144)(hd:d=0)(hc:c=P):Calls Tryz.prog 157 #[.pointer (some ⟨b,0,none⟩),.pointer (some ⟨q,0,none⟩)] w fun e w'=>e=.returned (.bool false)∧Blk w' b #[.int .i64 k,.int .i64 c,.int .i64 n,.int .i64 s,.int .i64 d,.int .i64 g,.int .i64 0] 144∧Touch (fun i=>i=b) w w':=by
 have q0:=hq.cell 0 rfl
 have c1:=hb.cell 1 rfl
 have f1:=hb.free 1
 have c2:=hb.cell 2 rfl
 have f2:=hb.free 2
 have c3:=hb.cell 3 rfl
 have f3:=hb.free 3
 have c4:=hb.cell 4 rfl
 have f4:=hb.free 4
 have HB:=hid hb
 clear hb hq
 subst hd hc
 go_enter Tryz.func157,Tryz.ntmps157
 go_wp2_with fail
 go_quiet (fail)
 go_wp2_with fail
 go_ret
 exact⟨rfl,(HB.out.drewN _),(Touch.refl _ _).drewN _⟩
theorem Eb(k c n s d g P:Int)(q b:Nat)(w:World)(hq:Blk w q #[.int .i64 P] 3)(hne:q≠b)(hb:Blk w b #[.int .i64 k,.int .i64 c,.int .i64 n,.int .i64 s,.int .i64 d,.int .i64 g,.int .i64 0] 144)(hd:d=0)(hc:¬c=P):Calls Tryz.prog 157 #[.pointer (some ⟨b,0,none⟩),.pointer (some ⟨q,0,none⟩)] w fun e w'=>e=.returned (.bool true)∧Blk w' b #[.int .i64 k,.int .i64 P,.int .i64 n,.int .i64 s,.int .i64 d,.int .i64 g,.int .i64 0] 144∧Touch (fun i=>i=b) w w':=by
 have q0:=hq.cell 0 rfl
 have c1:=hb.cell 1 rfl
 have f1:=hb.free 1
 have c2:=hb.cell 2 rfl
 have f2:=hb.free 2
 have c3:=hb.cell 3 rfl
 have f3:=hb.free 3
 have c4:=hb.cell 4 rfl
 have f4:=hb.free 4
 have HB:=hid hb
 clear hb hq
 subst hd
 have hcb:=neq_b hc
 clear hc
 go_enter Tryz.func157,Tryz.ntmps157
 go_wp2_with fail
 go_quiet (fail)
 go_wp2_with fail
 go_ret
 exact⟨rfl,(HB.out.drewN _).put 1 (.int .i64 P) rfl,((Touch.refl (fun i=>i=b) w).drewN _).setCell (p:=⟨b,1,none⟩) (fun _=>rfl) _⟩
section
variable {p:Pl} {c:Cf} {s:St} {pool:List Nat} {os:List Ob} {o:Ob} {r:Int} {w:World}
theorem zw(V:Value)(hG:G w p c s)(H:ah c s.zs pool os)(hr:In64 r)(ho:dJ os r=none):Calls Tryz.prog 113 #[.pointer (some ⟨p.a,0,none⟩),.int .i64 r,V] w (GP w p c ⟨s.zs,s.m+dF (aB c (prev r) 0)⟩ (.bool false)):=by
 have HI:=hid (Eo hG H hr ho)
 have HG:=hid hG
 clear hG H hr ho
 go_enter Tryz.func113,Tryz.ntmps113
 have HT0:Hid (Touch (inG p) w w):=hid (Touch.refl _ _)
 go_wp2_with fail
 refine(HI.out).mono ?_
 rintro e wm1 ⟨rfl,hG,hT⟩
 have HG1:=hid hG
 have HT1:Hid (Touch (inG p) _ wm1):=hid (HT0.out.trans hT)
 clear hG hT
 go_wp2_with fail
 go_ret
 exact⟨rfl,HG1.out,HT1.out⟩
theorem sO(F:FuncId)(hE:∀(args:Array Value) (w:World),(callFunc F args).run Tryz.prog w=.ok (.enter F args) w)(q:Nat)(P:Int)(hG:G w p c s)(H:ah c s.zs pool os)(ho:o∈os)(x:Int)(hx:nth s.zs (adr c o.h 0)=x)(hq:Blk w q #[.int .i64 P] 3)(hqo:¬jf p q)(c1 n1 s1 d1:Int)(hc:c1=0∨c1=1)(hn:n1=0∨n1=1)(hs:s1=0∨s1=1)(hd:d1=0∨d1=1)
  (hF:∀(w':World) (b:Nat),Blk w' q #[.int .i64 P] 3→q≠b→Blk w' b #[.int .i64 (uK x),.int .i64 (uC x),.int .i64 (uN x),.int .i64 (uS x),.int .i64 (uD x),.int .i64 (uG x),.int .i64 0] 144→Calls Tryz.prog F #[.pointer (some ⟨b,0,none⟩),.pointer (some ⟨q,0,none⟩)] w' fun e w''=>e=.returned (.bool true)∧Blk w'' b #[.int .i64 (uK x),.int .i64 c1,.int .i64 n1,.int .i64 s1,.int .i64 d1,.int .i64 (uG x),.int .i64 0] 144∧Touch (fun i=>i=b) w' w''):
  Calls Tryz.prog 113 #[.pointer (some ⟨p.a,0,none⟩),.int .i64 ((o.h:Int)+1),.func (.func F) #[] #[.pointer (some ⟨q,0,none⟩)]] w (GP w p c ⟨s.zs.set (adr c o.h 0) (dD x c1 n1 s1 d1),s.m+3⟩ (.bool true)):=by
 have HI:=hid (lL hG H ho)
 have HG:=hid hG
 have HF:=hid hF
 have NO:Hid (∀i,w.heap.size≤i→¬jf p i):=hid (fun i hi hx=>by have:=hG.dW hx;omega)
 have hA:=H.obs o ho
 have hW:=hG.may.w
 have HB:=hid hA.hlt
 have HV:Hid (0<c.W):=hid (by omega)
 have HX:=hid hx
 have e1:=bR hG.may hA.hlt
 have htk:=hA.tok
 have hhd:=hA.head
 rw[hx] at htk hhd
 have hbd:=htk.bd
 have HN0:Hid (0≤x):=hid hbd.1
 have HN1:Hid (x≤4294967295):=hid (by omega)
 have hu0:uO x=0:=by
  have hr:=htk.1
  unfold bY at hr
  unfold bF at hhd
  omega
 have HR:Hid (dz (uK x) (uC x) (uN x) (uS x) (uD x) (uG x) 0=true):=hid (by
  have hr:=htk.1
  rw[hu0] at hr
  exact jM hr)
 have EP:Hid (bZ (uK x) (uC x) (uN x) (uS x) (uD x) (uG x) 0=x):=hid (by
  have h:=htk.pack
  rw[hu0] at h
  exact h)
 have HQ:=hid hq
 have HQo:=hid hqo
 have HQl:Hid (q<w.heap.size):=hid hq.lt
 clear hq hqo
 have HR2:Hid (dz (uK x) c1 n1 s1 d1 (uG x) 0=true):=hid (jM (pY htk hhd hc hn hs hd))
 have hok:=mi htk hhd hc hn hs hd
 obtain⟨y,hy⟩:∃y,y=dD x c1 n1 s1 d1:=⟨_,rfl⟩
 have EY:Hid (bZ (uK x) c1 n1 s1 d1 (uG x) 0=y):=hid hy.symm
 have hy0:0≤y:=by rw[hy];exact hok.2.2.2.2.2.2.2.1
 have hy1:y≤4294967295:=by rw[hy];exact hok.2.2.2.2.2.2.2.2
 have eor:=Li HN0.out HN1.out hy0 hy1
 have HY0:=hid hy0
 have HY1:=hid hy1
 rw[←hy]
 clear hok hy hc hn hs hd hy0 hy1
 clear hG H ho hA hW hx hbd htk hhd hu0 hF
 go_enter Tryz.func113,Tryz.ntmps113
 have HT0:Hid (Touch (inG p) w w):=hid (Touch.refl _ _)
 go_wp2_with fail
 refine(HI.out).mono ?_
 rintro e wm1 ⟨rfl,hG,hT⟩
 have HG1:=hid hG
 have HT1:Hid (Touch (inG p) _ wm1):=hid (HT0.out.trans hT)
 have HQ1:=hid (HQ.out.touch hT (fun hx=>HQo.out (Or.inr hx)))
 clear hG hT
 go_wp2_with fail
 refine(fq p c _ o.h 0 _ _ x _ HG1.out HB.out HV.out rfl rfl HX.out).mono ?_
 rintro e wm2 ⟨rfl,hG,hT⟩
 have HG2:=hid hG
 have HT2:Hid (Touch (inG p) _ wm2):=hid (HT1.out.trans hT)
 have HQ2:=hid (HQ1.out.touch hT (fun hx=>HQo.out (Or.inr hx)))
 clear hG hT
 go_wp2_with fail
 refine(dh x _ HN0.out HN1.out).mono ?_
 rintro e wm3 ⟨rfl,hb⟩
 have HG3:=hid (HG2.out.later hb)
 have HT3:Hid (Touch (inG p) _ wm3):=hid (HT2.out.trans (Touch.of_below hb))
 have HQ3:=hid (HQ2.out.later hb)
 clear hb
 go_wp2_with fail
 have HGa:=hid (HG3.out.alloc (.cells #[.int .i64 (uK x),.int .i64 (uC x),.int .i64 (uN x),.int .i64 (uS x),.int .i64 (uD x),.int .i64 (uG x),.int .i64 0] 144))
 have HTa:=hid (HT3.out.alloc (.cells #[.int .i64 (uK x),.int .i64 (uC x),.int .i64 (uN x),.int .i64 (uS x),.int .i64 (uD x),.int .i64 (uG x),.int .i64 0] 144))
 have HQa:=hid (HQ3.out.alloc (.cells #[.int .i64 (uK x),.int .i64 (uC x),.int .i64 (uN x),.int .i64 (uS x),.int .i64 (uD x),.int .i64 (uG x),.int .i64 0] 144))
 have HTB:=hid (Blk.new wm3 #[.int .i64 (uK x),.int .i64 (uC x),.int .i64 (uN x),.int .i64 (uS x),.int .i64 (uD x),.int .i64 (uG x),.int .i64 0] 144)
 have HS3:Hid (w.heap.size≤wm3.heap.size):=hid HT3.out.size
 have HQn:Hid (q≠wm3.heap.size):=hid (by have h1:=HT3.out.size;have h2:=HQl.out;omega)
 generalize wm3.alloc (.cells #[.int .i64 (uK x),.int .i64 (uC x),.int .i64 (uN x),.int .i64 (uS x),.int .i64 (uD x),.int .i64 (uG x),.int .i64 0] 144)=v3 at*
 generalize wm3.heap.size=bq at*
 have t0:=HTB.out.cell 0 rfl
 have t1:=HTB.out.cell 1 rfl
 have t2:=HTB.out.cell 2 rfl
 have t3:=HTB.out.cell 3 rfl
 have t4:=HTB.out.cell 4 rfl
 have t5:=HTB.out.cell 5 rfl
 have t6:=HTB.out.cell 6 rfl
 go_wp2_with fail
 refine(eY (uK x) (uC x) (uN x) (uS x) (uD x) (uG x) 0 _ HR.out).mono ?_
 rw[EP.out]
 rintro e wm4 ⟨rfl,hb⟩
 have HG4:=hid (HGa.out.later hb)
 have HT4:Hid (Touch (inG p) _ wm4):=hid (HTa.out.trans (Touch.of_below hb))
 have HQ4:=hid (HQa.out.later hb)
 have HTB4:=hid (HTB.out.later hb)
 clear hb
 clear t0 t1 t2 t3 t4 t5 t6
 go_wp2_with fail
 refine(HF.out _ bq HQ4.out HQn.out HTB4.out).mono ?_
 rintro e v5 ⟨rfl,hB,hT⟩
 have HGb:=hid (HG4.out.touch hT (fun i hi e=>NO.out i (by have:=HS3.out;omega) hi))
 have HTb:=hid (HT4.out.newer hT HS3.out)
 have HTBb:=hid hB
 clear hB hT
 have t0:=HTBb.out.cell 0 rfl
 have t1:=HTBb.out.cell 1 rfl
 have t2:=HTBb.out.cell 2 rfl
 have t3:=HTBb.out.cell 3 rfl
 have t4:=HTBb.out.cell 4 rfl
 have t5:=HTBb.out.cell 5 rfl
 have t6:=HTBb.out.cell 6 rfl
 go_wp2_with fail
 refine(eY (uK x) c1 n1 s1 d1 (uG x) 0 _ HR2.out).mono ?_
 rw[EY.out]
 rintro e wm5 ⟨rfl,hb⟩
 have HG5:=hid (HGb.out.later hb)
 have HT5:Hid (Touch (inG p) _ wm5):=hid (HTb.out.trans (Touch.of_below hb))
 clear hb
 clear t0 t1 t2 t3 t4 t5 t6
 go_wp2_with fail
 refine(aK p c _ o.h 0 _ _ y _ HG5.out HB.out HV.out rfl rfl HY0.out HY1.out).mono ?_
 rintro e wm6 ⟨rfl,hG,hT⟩
 have HG6:=hid hG
 have HT6:Hid (Touch (inG p) _ wm6):=hid (HT5.out.trans hT)
 clear hG hT
 go_wp2_with fail
 go_ret
 exact⟨rfl,HG6.out,HT6.out⟩
theorem Hm(F:FuncId)(hE:∀(args:Array Value) (w:World),(callFunc F args).run Tryz.prog w=.ok (.enter F args) w)(q:Nat)(P:Int)(hG:G w p c s)(H:ah c s.zs pool os)(ho:o∈os)(x:Int)(hx:nth s.zs (adr c o.h 0)=x)(hq:Blk w q #[.int .i64 P] 3)(hqo:¬jf p q)
  (hF:∀(w':World) (b:Nat),Blk w' q #[.int .i64 P] 3→q≠b→Blk w' b #[.int .i64 (uK x),.int .i64 (uC x),.int .i64 (uN x),.int .i64 (uS x),.int .i64 (uD x),.int .i64 (uG x),.int .i64 0] 144→Calls Tryz.prog F #[.pointer (some ⟨b,0,none⟩),.pointer (some ⟨q,0,none⟩)] w' fun e w''=>e=.returned (.bool false)∧Blk w'' b #[.int .i64 (uK x),.int .i64 (uC x),.int .i64 (uN x),.int .i64 (uS x),.int .i64 (uD x),.int .i64 (uG x),.int .i64 0] 144∧Touch (fun i=>i=b) w' w''):
  Calls Tryz.prog 113 #[.pointer (some ⟨p.a,0,none⟩),.int .i64 ((o.h:Int)+1),.func (.func F) #[] #[.pointer (some ⟨q,0,none⟩)]] w (GP w p c ⟨s.zs,s.m+2⟩ (.bool false)):=by
 have HI:=hid (lL hG H ho)
 have HG:=hid hG
 have HF:=hid hF
 have NO:Hid (∀i,w.heap.size≤i→¬jf p i):=hid (fun i hi hx=>by have:=hG.dW hx;omega)
 have hA:=H.obs o ho
 have hW:=hG.may.w
 have HB:=hid hA.hlt
 have HV:Hid (0<c.W):=hid (by omega)
 have HX:=hid hx
 have e1:=bR hG.may hA.hlt
 have htk:=hA.tok
 have hhd:=hA.head
 rw[hx] at htk hhd
 have hbd:=htk.bd
 have HN0:Hid (0≤x):=hid hbd.1
 have HN1:Hid (x≤4294967295):=hid (by omega)
 have hu0:uO x=0:=by
  have hr:=htk.1
  unfold bY at hr
  unfold bF at hhd
  omega
 have HR:Hid (dz (uK x) (uC x) (uN x) (uS x) (uD x) (uG x) 0=true):=hid (by
  have hr:=htk.1
  rw[hu0] at hr
  exact jM hr)
 have EP:Hid (bZ (uK x) (uC x) (uN x) (uS x) (uD x) (uG x) 0=x):=hid (by
  have h:=htk.pack
  rw[hu0] at h
  exact h)
 have HQ:=hid hq
 have HQo:=hid hqo
 have HQl:Hid (q<w.heap.size):=hid hq.lt
 clear hq hqo
 clear hG H ho hA hW hx hbd htk hhd hu0 hF
 go_enter Tryz.func113,Tryz.ntmps113
 have HT0:Hid (Touch (inG p) w w):=hid (Touch.refl _ _)
 go_wp2_with fail
 refine(HI.out).mono ?_
 rintro e wm1 ⟨rfl,hG,hT⟩
 have HG1:=hid hG
 have HT1:Hid (Touch (inG p) _ wm1):=hid (HT0.out.trans hT)
 have HQ1:=hid (HQ.out.touch hT (fun hx=>HQo.out (Or.inr hx)))
 clear hG hT
 go_wp2_with fail
 refine(fq p c _ o.h 0 _ _ x _ HG1.out HB.out HV.out rfl rfl HX.out).mono ?_
 rintro e wm2 ⟨rfl,hG,hT⟩
 have HG2:=hid hG
 have HT2:Hid (Touch (inG p) _ wm2):=hid (HT1.out.trans hT)
 have HQ2:=hid (HQ1.out.touch hT (fun hx=>HQo.out (Or.inr hx)))
 clear hG hT
 go_wp2_with fail
 refine(dh x _ HN0.out HN1.out).mono ?_
 rintro e wm3 ⟨rfl,hb⟩
 have HG3:=hid (HG2.out.later hb)
 have HT3:Hid (Touch (inG p) _ wm3):=hid (HT2.out.trans (Touch.of_below hb))
 have HQ3:=hid (HQ2.out.later hb)
 clear hb
 go_wp2_with fail
 have HGa:=hid (HG3.out.alloc (.cells #[.int .i64 (uK x),.int .i64 (uC x),.int .i64 (uN x),.int .i64 (uS x),.int .i64 (uD x),.int .i64 (uG x),.int .i64 0] 144))
 have HTa:=hid (HT3.out.alloc (.cells #[.int .i64 (uK x),.int .i64 (uC x),.int .i64 (uN x),.int .i64 (uS x),.int .i64 (uD x),.int .i64 (uG x),.int .i64 0] 144))
 have HQa:=hid (HQ3.out.alloc (.cells #[.int .i64 (uK x),.int .i64 (uC x),.int .i64 (uN x),.int .i64 (uS x),.int .i64 (uD x),.int .i64 (uG x),.int .i64 0] 144))
 have HTB:=hid (Blk.new wm3 #[.int .i64 (uK x),.int .i64 (uC x),.int .i64 (uN x),.int .i64 (uS x),.int .i64 (uD x),.int .i64 (uG x),.int .i64 0] 144)
 have HS3:Hid (w.heap.size≤wm3.heap.size):=hid HT3.out.size
 have HQn:Hid (q≠wm3.heap.size):=hid (by have h1:=HT3.out.size;have h2:=HQl.out;omega)
 generalize wm3.alloc (.cells #[.int .i64 (uK x),.int .i64 (uC x),.int .i64 (uN x),.int .i64 (uS x),.int .i64 (uD x),.int .i64 (uG x),.int .i64 0] 144)=v3 at*
 generalize wm3.heap.size=bq at*
 have t0:=HTB.out.cell 0 rfl
 have t1:=HTB.out.cell 1 rfl
 have t2:=HTB.out.cell 2 rfl
 have t3:=HTB.out.cell 3 rfl
 have t4:=HTB.out.cell 4 rfl
 have t5:=HTB.out.cell 5 rfl
 have t6:=HTB.out.cell 6 rfl
 go_wp2_with fail
 refine(eY (uK x) (uC x) (uN x) (uS x) (uD x) (uG x) 0 _ HR.out).mono ?_
 rw[EP.out]
 rintro e wm4 ⟨rfl,hb⟩
 have HG4:=hid (HGa.out.later hb)
 have HT4:Hid (Touch (inG p) _ wm4):=hid (HTa.out.trans (Touch.of_below hb))
 have HQ4:=hid (HQa.out.later hb)
 have HTB4:=hid (HTB.out.later hb)
 clear hb
 clear t0 t1 t2 t3 t4 t5 t6
 go_wp2_with fail
 refine(HF.out _ bq HQ4.out HQn.out HTB4.out).mono ?_
 rintro e v5 ⟨rfl,hB,hT⟩
 have HGb:=hid (HG4.out.touch hT (fun i hi e=>NO.out i (by have:=HS3.out;omega) hi))
 have HTb:=hid (HT4.out.newer hT HS3.out)
 have HTBb:=hid hB
 clear hB hT
 go_wp2_with fail
 go_ret
 exact⟨rfl,HGb.out,HTb.out⟩
theorem Oi(F:FuncId)(hE:∀(args:Array Value) (w:World),(callFunc F args).run Tryz.prog w=.ok (.enter F args) w)(hG:G w p c s)(H:ah c s.zs pool os)(ho:o∈os)(x:Int)(hx:nth s.zs (adr c o.h 0)=x)(c1 n1 s1 d1:Int)(hc:c1=0∨c1=1)(hn:n1=0∨n1=1)(hs:s1=0∨s1=1)(hd:d1=0∨d1=1)
  (hF:∀(w':World) (b:Nat),Blk w' b #[.int .i64 (uK x),.int .i64 (uC x),.int .i64 (uN x),.int .i64 (uS x),.int .i64 (uD x),.int .i64 (uG x),.int .i64 0] 144→Calls Tryz.prog F #[.pointer (some ⟨b,0,none⟩)] w' fun e w''=>e=.returned (.bool true)∧Blk w'' b #[.int .i64 (uK x),.int .i64 c1,.int .i64 n1,.int .i64 s1,.int .i64 d1,.int .i64 (uG x),.int .i64 0] 144∧Touch (fun i=>i=b) w' w''):
  Calls Tryz.prog 113 #[.pointer (some ⟨p.a,0,none⟩),.int .i64 ((o.h:Int)+1),.func (.func F) #[] #[]] w (GP w p c ⟨s.zs.set (adr c o.h 0) (dD x c1 n1 s1 d1),s.m+3⟩ (.bool true)):=by
 have HI:=hid (lL hG H ho)
 have HG:=hid hG
 have HF:=hid hF
 have NO:Hid (∀i,w.heap.size≤i→¬jf p i):=hid (fun i hi hx=>by have:=hG.dW hx;omega)
 have hA:=H.obs o ho
 have hW:=hG.may.w
 have HB:=hid hA.hlt
 have HV:Hid (0<c.W):=hid (by omega)
 have HX:=hid hx
 have e1:=bR hG.may hA.hlt
 have htk:=hA.tok
 have hhd:=hA.head
 rw[hx] at htk hhd
 have hbd:=htk.bd
 have HN0:Hid (0≤x):=hid hbd.1
 have HN1:Hid (x≤4294967295):=hid (by omega)
 have hu0:uO x=0:=by
  have hr:=htk.1
  unfold bY at hr
  unfold bF at hhd
  omega
 have HR:Hid (dz (uK x) (uC x) (uN x) (uS x) (uD x) (uG x) 0=true):=hid (by
  have hr:=htk.1
  rw[hu0] at hr
  exact jM hr)
 have EP:Hid (bZ (uK x) (uC x) (uN x) (uS x) (uD x) (uG x) 0=x):=hid (by
  have h:=htk.pack
  rw[hu0] at h
  exact h)
 have HR2:Hid (dz (uK x) c1 n1 s1 d1 (uG x) 0=true):=hid (jM (pY htk hhd hc hn hs hd))
 have hok:=mi htk hhd hc hn hs hd
 obtain⟨y,hy⟩:∃y,y=dD x c1 n1 s1 d1:=⟨_,rfl⟩
 have EY:Hid (bZ (uK x) c1 n1 s1 d1 (uG x) 0=y):=hid hy.symm
 have hy0:0≤y:=by rw[hy];exact hok.2.2.2.2.2.2.2.1
 have hy1:y≤4294967295:=by rw[hy];exact hok.2.2.2.2.2.2.2.2
 have eor:=Li HN0.out HN1.out hy0 hy1
 have HY0:=hid hy0
 have HY1:=hid hy1
 rw[←hy]
 clear hok hy hc hn hs hd hy0 hy1
 clear hG H ho hA hW hx hbd htk hhd hu0 hF
 go_enter Tryz.func113,Tryz.ntmps113
 have HT0:Hid (Touch (inG p) w w):=hid (Touch.refl _ _)
 go_wp2_with fail
 refine(HI.out).mono ?_
 rintro e wm1 ⟨rfl,hG,hT⟩
 have HG1:=hid hG
 have HT1:Hid (Touch (inG p) _ wm1):=hid (HT0.out.trans hT)
 clear hG hT
 go_wp2_with fail
 refine(fq p c _ o.h 0 _ _ x _ HG1.out HB.out HV.out rfl rfl HX.out).mono ?_
 rintro e wm2 ⟨rfl,hG,hT⟩
 have HG2:=hid hG
 have HT2:Hid (Touch (inG p) _ wm2):=hid (HT1.out.trans hT)
 clear hG hT
 go_wp2_with fail
 refine(dh x _ HN0.out HN1.out).mono ?_
 rintro e wm3 ⟨rfl,hb⟩
 have HG3:=hid (HG2.out.later hb)
 have HT3:Hid (Touch (inG p) _ wm3):=hid (HT2.out.trans (Touch.of_below hb))
 clear hb
 go_wp2_with fail
 have HGa:=hid (HG3.out.alloc (.cells #[.int .i64 (uK x),.int .i64 (uC x),.int .i64 (uN x),.int .i64 (uS x),.int .i64 (uD x),.int .i64 (uG x),.int .i64 0] 144))
 have HTa:=hid (HT3.out.alloc (.cells #[.int .i64 (uK x),.int .i64 (uC x),.int .i64 (uN x),.int .i64 (uS x),.int .i64 (uD x),.int .i64 (uG x),.int .i64 0] 144))
 have HTB:=hid (Blk.new wm3 #[.int .i64 (uK x),.int .i64 (uC x),.int .i64 (uN x),.int .i64 (uS x),.int .i64 (uD x),.int .i64 (uG x),.int .i64 0] 144)
 have HS3:Hid (w.heap.size≤wm3.heap.size):=hid HT3.out.size
 generalize wm3.alloc (.cells #[.int .i64 (uK x),.int .i64 (uC x),.int .i64 (uN x),.int .i64 (uS x),.int .i64 (uD x),.int .i64 (uG x),.int .i64 0] 144)=v3 at*
 generalize wm3.heap.size=bq at*
 have t0:=HTB.out.cell 0 rfl
 have t1:=HTB.out.cell 1 rfl
 have t2:=HTB.out.cell 2 rfl
 have t3:=HTB.out.cell 3 rfl
 have t4:=HTB.out.cell 4 rfl
 have t5:=HTB.out.cell 5 rfl
 have t6:=HTB.out.cell 6 rfl
 go_wp2_with fail
 refine(eY (uK x) (uC x) (uN x) (uS x) (uD x) (uG x) 0 _ HR.out).mono ?_
 rw[EP.out]
 rintro e wm4 ⟨rfl,hb⟩
 have HG4:=hid (HGa.out.later hb)
 have HT4:Hid (Touch (inG p) _ wm4):=hid (HTa.out.trans (Touch.of_below hb))
 have HTB4:=hid (HTB.out.later hb)
 clear hb
 clear t0 t1 t2 t3 t4 t5 t6
 go_wp2_with fail
 refine(HF.out _ bq HTB4.out).mono ?_
 rintro e v5 ⟨rfl,hB,hT⟩
 have HGb:=hid (HG4.out.touch hT (fun i hi e=>NO.out i (by have:=HS3.out;omega) hi))
 have HTb:=hid (HT4.out.newer hT HS3.out)
 have HTBb:=hid hB
 clear hB hT
 have t0:=HTBb.out.cell 0 rfl
 have t1:=HTBb.out.cell 1 rfl
 have t2:=HTBb.out.cell 2 rfl
 have t3:=HTBb.out.cell 3 rfl
 have t4:=HTBb.out.cell 4 rfl
 have t5:=HTBb.out.cell 5 rfl
 have t6:=HTBb.out.cell 6 rfl
 go_wp2_with fail
 refine(eY (uK x) c1 n1 s1 d1 (uG x) 0 _ HR2.out).mono ?_
 rw[EY.out]
 rintro e wm5 ⟨rfl,hb⟩
 have HG5:=hid (HGb.out.later hb)
 have HT5:Hid (Touch (inG p) _ wm5):=hid (HTb.out.trans (Touch.of_below hb))
 clear hb
 clear t0 t1 t2 t3 t4 t5 t6
 go_wp2_with fail
 refine(aK p c _ o.h 0 _ _ y _ HG5.out HB.out HV.out rfl rfl HY0.out HY1.out).mono ?_
 rintro e wm6 ⟨rfl,hG,hT⟩
 have HG6:=hid hG
 have HT6:Hid (Touch (inG p) _ wm6):=hid (HT5.out.trans hT)
 clear hG hT
 go_wp2_with fail
 go_ret
 exact⟨rfl,HG6.out,HT6.out⟩
theorem Me(F:FuncId)(hE:∀(args:Array Value) (w:World),(callFunc F args).run Tryz.prog w=.ok (.enter F args) w)(hG:G w p c s)(H:ah c s.zs pool os)(ho:o∈os)(x:Int)(hx:nth s.zs (adr c o.h 0)=x)
  (hF:∀(w':World) (b:Nat),Blk w' b #[.int .i64 (uK x),.int .i64 (uC x),.int .i64 (uN x),.int .i64 (uS x),.int .i64 (uD x),.int .i64 (uG x),.int .i64 0] 144→Calls Tryz.prog F #[.pointer (some ⟨b,0,none⟩)] w' fun e w''=>e=.returned (.bool false)∧Blk w'' b #[.int .i64 (uK x),.int .i64 (uC x),.int .i64 (uN x),.int .i64 (uS x),.int .i64 (uD x),.int .i64 (uG x),.int .i64 0] 144∧Touch (fun i=>i=b) w' w''):
  Calls Tryz.prog 113 #[.pointer (some ⟨p.a,0,none⟩),.int .i64 ((o.h:Int)+1),.func (.func F) #[] #[]] w (GP w p c ⟨s.zs,s.m+2⟩ (.bool false)):=by
 have HI:=hid (lL hG H ho)
 have HG:=hid hG
 have HF:=hid hF
 have NO:Hid (∀i,w.heap.size≤i→¬jf p i):=hid (fun i hi hx=>by have:=hG.dW hx;omega)
 have hA:=H.obs o ho
 have hW:=hG.may.w
 have HB:=hid hA.hlt
 have HV:Hid (0<c.W):=hid (by omega)
 have HX:=hid hx
 have e1:=bR hG.may hA.hlt
 have htk:=hA.tok
 have hhd:=hA.head
 rw[hx] at htk hhd
 have hbd:=htk.bd
 have HN0:Hid (0≤x):=hid hbd.1
 have HN1:Hid (x≤4294967295):=hid (by omega)
 have hu0:uO x=0:=by
  have hr:=htk.1
  unfold bY at hr
  unfold bF at hhd
  omega
 have HR:Hid (dz (uK x) (uC x) (uN x) (uS x) (uD x) (uG x) 0=true):=hid (by
  have hr:=htk.1
  rw[hu0] at hr
  exact jM hr)
 have EP:Hid (bZ (uK x) (uC x) (uN x) (uS x) (uD x) (uG x) 0=x):=hid (by
  have h:=htk.pack
  rw[hu0] at h
  exact h)
 clear hG H ho hA hW hx hbd htk hhd hu0 hF
 go_enter Tryz.func113,Tryz.ntmps113
 have HT0:Hid (Touch (inG p) w w):=hid (Touch.refl _ _)
 go_wp2_with fail
 refine(HI.out).mono ?_
 rintro e wm1 ⟨rfl,hG,hT⟩
 have HG1:=hid hG
 have HT1:Hid (Touch (inG p) _ wm1):=hid (HT0.out.trans hT)
 clear hG hT
 go_wp2_with fail
 refine(fq p c _ o.h 0 _ _ x _ HG1.out HB.out HV.out rfl rfl HX.out).mono ?_
 rintro e wm2 ⟨rfl,hG,hT⟩
 have HG2:=hid hG
 have HT2:Hid (Touch (inG p) _ wm2):=hid (HT1.out.trans hT)
 clear hG hT
 go_wp2_with fail
 refine(dh x _ HN0.out HN1.out).mono ?_
 rintro e wm3 ⟨rfl,hb⟩
 have HG3:=hid (HG2.out.later hb)
 have HT3:Hid (Touch (inG p) _ wm3):=hid (HT2.out.trans (Touch.of_below hb))
 clear hb
 go_wp2_with fail
 have HGa:=hid (HG3.out.alloc (.cells #[.int .i64 (uK x),.int .i64 (uC x),.int .i64 (uN x),.int .i64 (uS x),.int .i64 (uD x),.int .i64 (uG x),.int .i64 0] 144))
 have HTa:=hid (HT3.out.alloc (.cells #[.int .i64 (uK x),.int .i64 (uC x),.int .i64 (uN x),.int .i64 (uS x),.int .i64 (uD x),.int .i64 (uG x),.int .i64 0] 144))
 have HTB:=hid (Blk.new wm3 #[.int .i64 (uK x),.int .i64 (uC x),.int .i64 (uN x),.int .i64 (uS x),.int .i64 (uD x),.int .i64 (uG x),.int .i64 0] 144)
 have HS3:Hid (w.heap.size≤wm3.heap.size):=hid HT3.out.size
 generalize wm3.alloc (.cells #[.int .i64 (uK x),.int .i64 (uC x),.int .i64 (uN x),.int .i64 (uS x),.int .i64 (uD x),.int .i64 (uG x),.int .i64 0] 144)=v3 at*
 generalize wm3.heap.size=bq at*
 have t0:=HTB.out.cell 0 rfl
 have t1:=HTB.out.cell 1 rfl
 have t2:=HTB.out.cell 2 rfl
 have t3:=HTB.out.cell 3 rfl
 have t4:=HTB.out.cell 4 rfl
 have t5:=HTB.out.cell 5 rfl
 have t6:=HTB.out.cell 6 rfl
 go_wp2_with fail
 refine(eY (uK x) (uC x) (uN x) (uS x) (uD x) (uG x) 0 _ HR.out).mono ?_
 rw[EP.out]
 rintro e wm4 ⟨rfl,hb⟩
 have HG4:=hid (HGa.out.later hb)
 have HT4:Hid (Touch (inG p) _ wm4):=hid (HTa.out.trans (Touch.of_below hb))
 have HTB4:=hid (HTB.out.later hb)
 clear hb
 clear t0 t1 t2 t3 t4 t5 t6
 go_wp2_with fail
 refine(HF.out _ bq HTB4.out).mono ?_
 rintro e v5 ⟨rfl,hB,hT⟩
 have HGb:=hid (HG4.out.touch hT (fun i hi e=>NO.out i (by have:=HS3.out;omega) hi))
 have HTb:=hid (HT4.out.newer hT HS3.out)
 have HTBb:=hid hB
 clear hB hT
 go_wp2_with fail
 go_ret
 exact⟨rfl,HGb.out,HTb.out⟩
end
section
variable {p:Pl} {c:Cf} {s:St} {pool:List Nat} {os:List Ob} {o:Ob} {r:Int} {w:World}
theorem kT.nP{w:World}{p:Pl}{c:Cf}{s:St}(h:G w p c s):¬jf p w.heap.size:=fun hx=>by have:=h.dW hx;omega
theorem FX(hG:G w p c s)(H:ah c s.zs pool os)(hr:In64 r)(ho:dJ os r=none):Calls Tryz.prog 50 #[.pointer (some ⟨p.a,0,none⟩),.int .i64 r] w (GP w p c ⟨s.zs,s.m+dF (aB c (prev r) 0)⟩ (.bool false)):=by
 have HI:=hid (oU hG H hr ho)
 have HG:=hid hG
 clear hG H hr ho
 go_enter Tryz.func50,Tryz.ntmps50
 have HT0:Hid (Touch (inG p) w w):=hid (Touch.refl _ _)
 go_wp2_with fail
 refine(HI.out).mono ?_
 rintro e wm1 ⟨rfl,hG,hT⟩
 have HG1:=hid hG
 have HT1:Hid (Touch (inG p) _ wm1):=hid (HT0.out.trans hT)
 clear hG hT
 have HGa:=hid (HG1.out.alloc (.cells #[.int .i64 0,.int .i64 0,.int .i64 0,.int .i64 0,.int .i64 0,.int .i64 0,.int .i64 0] 144))
 have HTa:=hid (HT1.out.alloc (.cells #[.int .i64 0,.int .i64 0,.int .i64 0,.int .i64 0,.int .i64 0,.int .i64 0,.int .i64 0] 144))
 go_wp2_with fail
 go_ret
 exact⟨rfl,HGa.out,HTa.out⟩
theorem uk(hG:G w p c s)(H:ah c s.zs pool os)(hr:In64 r)(ho:dJ os r=none):Calls Tryz.prog 51 #[.pointer (some ⟨p.a,0,none⟩),.int .i64 r] w (GP w p c ⟨s.zs,s.m+dF (aB c (prev r) 0)⟩ (.bool false)):=by
 have HI:=hid (oU hG H hr ho)
 have HG:=hid hG
 clear hG H hr ho
 go_enter Tryz.func51,Tryz.ntmps51
 have HT0:Hid (Touch (inG p) w w):=hid (Touch.refl _ _)
 go_wp2_with fail
 refine(HI.out).mono ?_
 rintro e wm1 ⟨rfl,hG,hT⟩
 have HG1:=hid hG
 have HT1:Hid (Touch (inG p) _ wm1):=hid (HT0.out.trans hT)
 clear hG hT
 have HGa:=hid (HG1.out.alloc (.cells #[.int .i64 0,.int .i64 0,.int .i64 0,.int .i64 0,.int .i64 0,.int .i64 0,.int .i64 0] 144))
 have HTa:=hid (HT1.out.alloc (.cells #[.int .i64 0,.int .i64 0,.int .i64 0,.int .i64 0,.int .i64 0,.int .i64 0,.int .i64 0] 144))
 go_wp2_with fail
 go_quiet (fail)
 go_wp2_with fail
 go_ret
 exact⟨rfl,(HGa.out.later (show Below _ _ ((wm1.alloc _).drewN _) from⟨rfl,rfl,rfl,Nat.le_refl _,fun _ _=>rfl⟩)),HTa.out.drewN _⟩
theorem mM(hG:G w p c s)(H:ah c s.zs pool os)(hr:In64 r)(ho:dJ os r=none):Calls Tryz.prog 121 #[.pointer (some ⟨p.a,0,none⟩),.int .i64 r] w (GP w p c ⟨s.zs,s.m+dF (aB c (prev r) 0)⟩ (.int .i64 0)):=by
 have HI:=hid (oU hG H hr ho)
 have HG:=hid hG
 clear hG H hr ho
 go_enter Tryz.func121,Tryz.ntmps121
 have HT0:Hid (Touch (inG p) w w):=hid (Touch.refl _ _)
 go_wp2_with fail
 refine(HI.out).mono ?_
 rintro e wm1 ⟨rfl,hG,hT⟩
 have HG1:=hid hG
 have HT1:Hid (Touch (inG p) _ wm1):=hid (HT0.out.trans hT)
 clear hG hT
 have HGa:=hid (HG1.out.alloc (.cells #[.int .i64 0,.int .i64 0,.int .i64 0,.int .i64 0,.int .i64 0,.int .i64 0,.int .i64 0] 144))
 have HTa:=hid (HT1.out.alloc (.cells #[.int .i64 0,.int .i64 0,.int .i64 0,.int .i64 0,.int .i64 0,.int .i64 0,.int .i64 0] 144))
 go_wp2_with fail
 go_quiet (fail)
 go_wp2_with fail
 go_ret
 exact⟨rfl,(HGa.out.later (show Below _ _ ((wm1.alloc _).drewN _) from⟨rfl,rfl,rfl,Nat.le_refl _,fun _ _=>rfl⟩)),HTa.out.drewN _⟩
theorem yc(i:Int)(hG:G w p c s)(H:ah c s.zs pool os)(hr:In64 r)(ho:dJ os r=none):Calls Tryz.prog 123 #[.pointer (some ⟨p.a,0,none⟩),.int .i64 r,.int .i64 i] w (GP w p c ⟨s.zs,s.m+dF (aB c (prev r) 0)⟩ (.bool false)):=by
 have HI:=hid (oU hG H hr ho)
 have HG:=hid hG
 clear hG H hr ho
 go_enter Tryz.func123,Tryz.ntmps123
 have HT0:Hid (Touch (inG p) w w):=hid (Touch.refl _ _)
 go_wp2_with fail
 refine(HI.out).mono ?_
 rintro e wm1 ⟨rfl,hG,hT⟩
 have HG1:=hid hG
 have HT1:Hid (Touch (inG p) _ wm1):=hid (HT0.out.trans hT)
 clear hG hT
 have HGa:=hid (HG1.out.alloc (.cells #[.int .i64 0,.int .i64 0,.int .i64 0,.int .i64 0,.int .i64 0,.int .i64 0,.int .i64 0] 144))
 have HTa:=hid (HT1.out.alloc (.cells #[.int .i64 0,.int .i64 0,.int .i64 0,.int .i64 0,.int .i64 0,.int .i64 0,.int .i64 0] 144))
 go_wp2_with fail
 go_ret
 exact⟨rfl,HGa.out,HTa.out⟩
theorem Ef(hG:G w p c s)(H:ah c s.zs pool os)(ho:o∈os)(x:Int)(hx:nth s.zs (adr c o.h 0)=x):Calls Tryz.prog 50 #[.pointer (some ⟨p.a,0,none⟩),.int .i64 ((o.h:Int)+1)] w (GP w p c ⟨s.zs,s.m+2⟩ (.bool (decide (uD x=1)))):=by
 have HI:=hid (fE hG H ho x hx)
 have HG:=hid hG
 have NO:Hid (∀i,w.heap.size≤i→¬jf p i):=hid (fun i hi hx=>by have:=hG.dW hx;omega)
 have hA:=H.obs o ho
 have hW:=hG.may.w
 have HB:=hid hA.hlt
 have HV:Hid (4<c.W):=hid (by omega)
 have e1:=bR hG.may hA.hlt
 have E:Hid ((uD x==1)=decide (uD x=1)):=hid (by by_cases h:uD x=1<;>simp[h])
 clear hG H ho hA hW hx
 go_enter Tryz.func50,Tryz.ntmps50
 have HT0:Hid (Touch (inG p) w w):=hid (Touch.refl _ _)
 go_wp2_with fail
 refine(HI.out).mono ?_
 rintro e wm1 ⟨rfl,hG,hT⟩
 have HG1:=hid hG
 have HT1:Hid (Touch (inG p) _ wm1):=hid (HT0.out.trans hT)
 clear hG hT
 have HGa:=hid (HG1.out.alloc (.cells #[.int .i64 (uK x),.int .i64 (uC x),.int .i64 (uN x),.int .i64 (uS x),.int .i64 (uD x),.int .i64 (uG x),.int .i64 (uO x)] 144))
 have HTa:=hid (HT1.out.alloc (.cells #[.int .i64 (uK x),.int .i64 (uC x),.int .i64 (uN x),.int .i64 (uS x),.int .i64 (uD x),.int .i64 (uG x),.int .i64 (uO x)] 144))
 have HBk:=hid (Blk.new wm1 #[.int .i64 (uK x),.int .i64 (uC x),.int .i64 (uN x),.int .i64 (uS x),.int .i64 (uD x),.int .i64 (uG x),.int .i64 (uO x)] 144)
 have HS3:Hid (w.heap.size≤wm1.heap.size):=hid HT1.out.size
 go_wp2_with fail
 generalize wm1.alloc (.cells #[.int .i64 (uK x),.int .i64 (uC x),.int .i64 (uN x),.int .i64 (uS x),.int .i64 (uD x),.int .i64 (uG x),.int .i64 (uO x)] 144)=v3 at*
 generalize wm1.heap.size=bq at*
 go_ret
 exact⟨aH E.out,HGa.out,HTa.out⟩
theorem jD(hG:G w p c s)(H:ah c s.zs pool os)(ho:o∈os)(x:Int)(hx:nth s.zs (adr c o.h 0)=x)(P:Int)(hP:nth s.zs 10=P):Calls Tryz.prog 51 #[.pointer (some ⟨p.a,0,none⟩),.int .i64 ((o.h:Int)+1)] w (GP w p c ⟨s.zs,s.m+3⟩ (.bool (decide (uC x=P)))):=by
 have HI:=hid (fE hG H ho x hx)
 have HG:=hid hG
 have NO:Hid (∀i,w.heap.size≤i→¬jf p i):=hid (fun i hi hx=>by have:=hG.dW hx;omega)
 have hA:=H.obs o ho
 have hW:=hG.may.w
 have HB:=hid hA.hlt
 have HV:Hid (4<c.W):=hid (by omega)
 have e1:=bR hG.may hA.hlt
 have HP:=hid hP
 clear hP
 have E:Hid ((uC x==P)=decide (uC x=P)):=hid (by by_cases h:uC x=P<;>simp[h])
 clear hG H ho hA hW hx
 go_enter Tryz.func51,Tryz.ntmps51
 have HT0:Hid (Touch (inG p) w w):=hid (Touch.refl _ _)
 go_wp2_with fail
 refine(HI.out).mono ?_
 rintro e wm1 ⟨rfl,hG,hT⟩
 have HG1:=hid hG
 have HT1:Hid (Touch (inG p) _ wm1):=hid (HT0.out.trans hT)
 clear hG hT
 have HGa:=hid (HG1.out.alloc (.cells #[.int .i64 (uK x),.int .i64 (uC x),.int .i64 (uN x),.int .i64 (uS x),.int .i64 (uD x),.int .i64 (uG x),.int .i64 (uO x)] 144))
 have HTa:=hid (HT1.out.alloc (.cells #[.int .i64 (uK x),.int .i64 (uC x),.int .i64 (uN x),.int .i64 (uS x),.int .i64 (uD x),.int .i64 (uG x),.int .i64 (uO x)] 144))
 have HBk:=hid (Blk.new wm1 #[.int .i64 (uK x),.int .i64 (uC x),.int .i64 (uN x),.int .i64 (uS x),.int .i64 (uD x),.int .i64 (uG x),.int .i64 (uO x)] 144)
 have HS3:Hid (w.heap.size≤wm1.heap.size):=hid HT1.out.size
 go_wp2_with fail
 generalize wm1.alloc (.cells #[.int .i64 (uK x),.int .i64 (uC x),.int .i64 (uN x),.int .i64 (uS x),.int .i64 (uD x),.int .i64 (uG x),.int .i64 (uO x)] 144)=v3 at*
 generalize wm1.heap.size=bq at*
 have z0:=HBk.out.drew.cell 1 rfl
 go_region_held3 (fun w'=>w'.cell? ⟨bq,1,none⟩=some (.int .i64 (uC x))) (exact z0) (first|(go_at_call 95;refine(aZ HGa.out.drew P HP.out).mono ?_;rintro e w5 ⟨rfl,hG,hT⟩;have hT':=hT.qf;have HG5:=hid hG;have HT5:=hid (HTa.out.trans hT');have z0:=(HBk.out.touch hT' (fun hx=>NO.out _ HS3.out (Or.inr hx))).cell 1 rfl;clear hG hT hT'))
 have HG5:=HG5
 go_wp2_with fail
 go_ret
 exact⟨aH E.out,HG5.out,HT5.out⟩
theorem El(hG:G w p c s)(H:ah c s.zs pool os)(ho:o∈os)(x:Int)(hx:nth s.zs (adr c o.h 0)=x)(P:Int)(hP:nth s.zs 10=P)(hs:¬uS x=P):Calls Tryz.prog 121 #[.pointer (some ⟨p.a,0,none⟩),.int .i64 ((o.h:Int)+1)] w (GP w p c ⟨s.zs,s.m+3⟩ (.int .i64 0)):=by
 have HI:=hid (fE hG H ho x hx)
 have HG:=hid hG
 have NO:Hid (∀i,w.heap.size≤i→¬jf p i):=hid (fun i hi hx=>by have:=hG.dW hx;omega)
 have hA:=H.obs o ho
 have hW:=hG.may.w
 have HB:=hid hA.hlt
 have HV:Hid (4<c.W):=hid (by omega)
 have e1:=bR hG.may hA.hlt
 have HP:=hid hP
 have hne:(uS x !=P)=true:=by simp[hs]
 clear hP hs
 clear hG H ho hA hW hx
 go_enter Tryz.func121,Tryz.ntmps121
 have HT0:Hid (Touch (inG p) w w):=hid (Touch.refl _ _)
 go_wp2_with fail
 refine(HI.out).mono ?_
 rintro e wm1 ⟨rfl,hG,hT⟩
 have HG1:=hid hG
 have HT1:Hid (Touch (inG p) _ wm1):=hid (HT0.out.trans hT)
 clear hG hT
 have HGa:=hid (HG1.out.alloc (.cells #[.int .i64 (uK x),.int .i64 (uC x),.int .i64 (uN x),.int .i64 (uS x),.int .i64 (uD x),.int .i64 (uG x),.int .i64 (uO x)] 144))
 have HTa:=hid (HT1.out.alloc (.cells #[.int .i64 (uK x),.int .i64 (uC x),.int .i64 (uN x),.int .i64 (uS x),.int .i64 (uD x),.int .i64 (uG x),.int .i64 (uO x)] 144))
 have HBk:=hid (Blk.new wm1 #[.int .i64 (uK x),.int .i64 (uC x),.int .i64 (uN x),.int .i64 (uS x),.int .i64 (uD x),.int .i64 (uG x),.int .i64 (uO x)] 144)
 have HS3:Hid (w.heap.size≤wm1.heap.size):=hid HT1.out.size
 go_wp2_with fail
 generalize wm1.alloc (.cells #[.int .i64 (uK x),.int .i64 (uC x),.int .i64 (uN x),.int .i64 (uS x),.int .i64 (uD x),.int .i64 (uG x),.int .i64 (uO x)] 144)=v3 at*
 generalize wm1.heap.size=bq at*
 have z0:=HBk.out.drew.cell 3 rfl
 go_region_held3 (fun w'=>w'.cell? ⟨bq,3,none⟩=some (.int .i64 (uS x))) (exact z0) (first|(go_at_call 95;refine(aZ HGa.out.drew P HP.out).mono ?_;rintro e w5 ⟨rfl,hG,hT⟩;have hT':=hT.qf;have HG5:=hid hG;have HT5:=hid (HTa.out.trans hT');have z0:=(HBk.out.touch hT' (fun hx=>NO.out _ HS3.out (Or.inr hx))).cell 3 rfl;clear hG hT hT'))
 have HG5:=HG5
 go_wp2_with fail
 go_ret
 exact⟨rfl,HG5.out,HT5.out⟩
theorem yj(hG:G w p c s)(H:ah c s.zs pool os)(ho:o∈os)(x:Int)(hx:nth s.zs (adr c o.h 0)=x)(P:Int)(hP:nth s.zs 10=P)(hs:uS x=P)(y:Int)(hy:nth s.zs (adr c o.h 4)=y):Calls Tryz.prog 121 #[.pointer (some ⟨p.a,0,none⟩),.int .i64 ((o.h:Int)+1)] w (GP w p c ⟨s.zs,s.m+4⟩ (.int .i64 y)):=by
 have HI:=hid (fE hG H ho x hx)
 have HG:=hid hG
 have NO:Hid (∀i,w.heap.size≤i→¬jf p i):=hid (fun i hi hx=>by have:=hG.dW hx;omega)
 have hA:=H.obs o ho
 have hW:=hG.may.w
 have HB:=hid hA.hlt
 have HV:Hid (4<c.W):=hid (by omega)
 have e1:=bR hG.may hA.hlt
 have HP:=hid hP
 have hne:(uS x !=P)=false:=by simp[hs]
 have HY:=hid hy
 have hwf:=hG.wz.wf (adr c o.h 4)
 rw[hy] at hwf
 have hwr:IntKind.i64.wrap y=y:=IntWalk.i64_in _ (by omega)
 clear hP hs hy hwf
 clear hG H ho hA hW hx
 go_enter Tryz.func121,Tryz.ntmps121
 have HT0:Hid (Touch (inG p) w w):=hid (Touch.refl _ _)
 go_wp2_with fail
 refine(HI.out).mono ?_
 rintro e wm1 ⟨rfl,hG,hT⟩
 have HG1:=hid hG
 have HT1:Hid (Touch (inG p) _ wm1):=hid (HT0.out.trans hT)
 clear hG hT
 have HGa:=hid (HG1.out.alloc (.cells #[.int .i64 (uK x),.int .i64 (uC x),.int .i64 (uN x),.int .i64 (uS x),.int .i64 (uD x),.int .i64 (uG x),.int .i64 (uO x)] 144))
 have HTa:=hid (HT1.out.alloc (.cells #[.int .i64 (uK x),.int .i64 (uC x),.int .i64 (uN x),.int .i64 (uS x),.int .i64 (uD x),.int .i64 (uG x),.int .i64 (uO x)] 144))
 have HBk:=hid (Blk.new wm1 #[.int .i64 (uK x),.int .i64 (uC x),.int .i64 (uN x),.int .i64 (uS x),.int .i64 (uD x),.int .i64 (uG x),.int .i64 (uO x)] 144)
 have HS3:Hid (w.heap.size≤wm1.heap.size):=hid HT1.out.size
 go_wp2_with fail
 generalize wm1.alloc (.cells #[.int .i64 (uK x),.int .i64 (uC x),.int .i64 (uN x),.int .i64 (uS x),.int .i64 (uD x),.int .i64 (uG x),.int .i64 (uO x)] 144)=v3 at*
 generalize wm1.heap.size=bq at*
 have z0:=HBk.out.drew.cell 3 rfl
 go_region_held3 (fun w'=>w'.cell? ⟨bq,3,none⟩=some (.int .i64 (uS x))) (exact z0) (first|(go_at_call 95;refine(aZ HGa.out.drew P HP.out).mono ?_;rintro e w5 ⟨rfl,hG,hT⟩;have hT':=hT.qf;have HG5:=hid hG;have HT5:=hid (HTa.out.trans hT');have z0:=(HBk.out.touch hT' (fun hx=>NO.out _ HS3.out (Or.inr hx))).cell 3 rfl;clear hG hT hT'))
 have HG5:=HG5
 go_wp2_with fail
 refine(fq p c _ o.h 4 _ _ y _ HG5.out HB.out HV.out rfl rfl HY.out).mono ?_
 rintro e wm2 ⟨rfl,hG,hT⟩
 have HG2:=hid hG
 have HT2:Hid (Touch (inG p) _ wm2):=hid (HT5.out.trans hT)
 clear hG hT
 go_wp2_with fail
 go_ret
 exact⟨rfl,HG2.out,HT2.out⟩
theorem wR(i:Int)(hG:G w p c s)(H:ah c s.zs pool os)(ho:o∈os)(x:Int)(hx:nth s.zs (adr c o.h 0)=x)(hi:i<0):Calls Tryz.prog 123 #[.pointer (some ⟨p.a,0,none⟩),.int .i64 ((o.h:Int)+1),.int .i64 i] w (GP w p c ⟨s.zs,s.m+2⟩ (.bool false)):=by
 have HI:=hid (fE hG H ho x hx)
 have HG:=hid hG
 have NO:Hid (∀i,w.heap.size≤i→¬jf p i):=hid (fun i hi hx=>by have:=hG.dW hx;omega)
 have hA:=H.obs o ho
 have hW:=hG.may.w
 have HB:=hid hA.hlt
 have HV:Hid (4<c.W):=hid (by omega)
 have e1:=bR hG.may hA.hlt
 have HI0:=hid hi
 clear hG H ho hA hW hx
 go_enter Tryz.func123,Tryz.ntmps123
 have HT0:Hid (Touch (inG p) w w):=hid (Touch.refl _ _)
 go_wp2_with fail
 refine(HI.out).mono ?_
 rintro e wm1 ⟨rfl,hG,hT⟩
 have HG1:=hid hG
 have HT1:Hid (Touch (inG p) _ wm1):=hid (HT0.out.trans hT)
 clear hG hT
 have HGa:=hid (HG1.out.alloc (.cells #[.int .i64 (uK x),.int .i64 (uC x),.int .i64 (uN x),.int .i64 (uS x),.int .i64 (uD x),.int .i64 (uG x),.int .i64 (uO x)] 144))
 have HTa:=hid (HT1.out.alloc (.cells #[.int .i64 (uK x),.int .i64 (uC x),.int .i64 (uN x),.int .i64 (uS x),.int .i64 (uD x),.int .i64 (uG x),.int .i64 (uO x)] 144))
 have HBk:=hid (Blk.new wm1 #[.int .i64 (uK x),.int .i64 (uC x),.int .i64 (uN x),.int .i64 (uS x),.int .i64 (uD x),.int .i64 (uG x),.int .i64 (uO x)] 144)
 have HS3:Hid (w.heap.size≤wm1.heap.size):=hid HT1.out.size
 go_wp2_with fail
 generalize wm1.alloc (.cells #[.int .i64 (uK x),.int .i64 (uC x),.int .i64 (uN x),.int .i64 (uS x),.int .i64 (uD x),.int .i64 (uG x),.int .i64 (uO x)] 144)=v3 at*
 generalize wm1.heap.size=bq at*
 go_ret
 exact⟨rfl,HGa.out,HTa.out⟩
theorem wS(i:Int)(hG:G w p c s)(H:ah c s.zs pool os)(ho:o∈os)(x:Int)(hx:nth s.zs (adr c o.h 0)=x)(P:Int)(hP:nth s.zs 10=P)(hi:¬i<0)(hs:uN x=P):Calls Tryz.prog 123 #[.pointer (some ⟨p.a,0,none⟩),.int .i64 ((o.h:Int)+1),.int .i64 i] w (GP w p c ⟨s.zs,s.m+3⟩ (.bool true)):=by
 have HI:=hid (fE hG H ho x hx)
 have HG:=hid hG
 have NO:Hid (∀i,w.heap.size≤i→¬jf p i):=hid (fun i hi hx=>by have:=hG.dW hx;omega)
 have hA:=H.obs o ho
 have hW:=hG.may.w
 have HB:=hid hA.hlt
 have HV:Hid (4<c.W):=hid (by omega)
 have e1:=bR hG.may hA.hlt
 have HP:=hid hP
 have hne:=eq_b hs
 clear hP hs
 clear hG H ho hA hW hx
 go_enter Tryz.func123,Tryz.ntmps123
 have HT0:Hid (Touch (inG p) w w):=hid (Touch.refl _ _)
 go_wp2_with fail
 refine(HI.out).mono ?_
 rintro e wm1 ⟨rfl,hG,hT⟩
 have HG1:=hid hG
 have HT1:Hid (Touch (inG p) _ wm1):=hid (HT0.out.trans hT)
 clear hG hT
 have HGa:=hid (HG1.out.alloc (.cells #[.int .i64 (uK x),.int .i64 (uC x),.int .i64 (uN x),.int .i64 (uS x),.int .i64 (uD x),.int .i64 (uG x),.int .i64 (uO x)] 144))
 have HTa:=hid (HT1.out.alloc (.cells #[.int .i64 (uK x),.int .i64 (uC x),.int .i64 (uN x),.int .i64 (uS x),.int .i64 (uD x),.int .i64 (uG x),.int .i64 (uO x)] 144))
 have HBk:=hid (Blk.new wm1 #[.int .i64 (uK x),.int .i64 (uC x),.int .i64 (uN x),.int .i64 (uS x),.int .i64 (uD x),.int .i64 (uG x),.int .i64 (uO x)] 144)
 have HS3:Hid (w.heap.size≤wm1.heap.size):=hid HT1.out.size
 go_wp2_with fail
 generalize wm1.alloc (.cells #[.int .i64 (uK x),.int .i64 (uC x),.int .i64 (uN x),.int .i64 (uS x),.int .i64 (uD x),.int .i64 (uG x),.int .i64 (uO x)] 144)=v3 at*
 generalize wm1.heap.size=bq at*
 have z0:=HBk.out.drew.cell 2 rfl
 go_region_held3 (fun w'=>w'.cell? ⟨bq,2,none⟩=some (.int .i64 (uN x))) (exact z0) (first|(go_at_call 95;refine(aZ HGa.out.drew P HP.out).mono ?_;rintro e w5 ⟨rfl,hG,hT⟩;have hT':=hT.qf;have HG5:=hid hG;have HT5:=hid (HTa.out.trans hT');have z0:=(HBk.out.touch hT' (fun hx=>NO.out _ HS3.out (Or.inr hx))).cell 2 rfl;clear hG hT hT'))
 have HG5:=HG5
 go_wp2_with fail
 go_ret
 exact⟨rfl,HG5.out,HT5.out⟩
theorem yf(i:Int)(hG:G w p c s)(H:ah c s.zs pool os)(ho:o∈os)(x:Int)(hx:nth s.zs (adr c o.h 0)=x)(P:Int)(hP:nth s.zs 10=P)(hi:¬i<0)(hs:¬uN x=P)(ph cu fi:Int)(hph:nth s.zs 11=ph)(hcu:nth s.zs 12=cu)(hfi:nth s.zs 13=fi)(h1:¬ph=1):Calls Tryz.prog 123 #[.pointer (some ⟨p.a,0,none⟩),.int .i64 ((o.h:Int)+1),.int .i64 i] w (GP w p c ⟨s.zs,s.m+6⟩ (.bool false)):=by
 have HI:=hid (fE hG H ho x hx)
 have HG:=hid hG
 have NO:Hid (∀i,w.heap.size≤i→¬jf p i):=hid (fun i hi hx=>by have:=hG.dW hx;omega)
 have hA:=H.obs o ho
 have hW:=hG.may.w
 have HB:=hid hA.hlt
 have HV:Hid (4<c.W):=hid (by omega)
 have e1:=bR hG.may hA.hlt
 have HP:=hid hP
 have hne:=neq_b hs
 have H11:=hid hph
 have H12:=hid hcu
 have H13:=hid hfi
 clear hP hs hph hcu hfi
 have q1:=neq_b h1
 clear h1
 clear hG H ho hA hW hx
 go_enter Tryz.func123,Tryz.ntmps123
 have HT0:Hid (Touch (inG p) w w):=hid (Touch.refl _ _)
 go_wp2_with fail
 refine(HI.out).mono ?_
 rintro e wm1 ⟨rfl,hG,hT⟩
 have HG1:=hid hG
 have HT1:Hid (Touch (inG p) _ wm1):=hid (HT0.out.trans hT)
 clear hG hT
 have HGa:=hid (HG1.out.alloc (.cells #[.int .i64 (uK x),.int .i64 (uC x),.int .i64 (uN x),.int .i64 (uS x),.int .i64 (uD x),.int .i64 (uG x),.int .i64 (uO x)] 144))
 have HTa:=hid (HT1.out.alloc (.cells #[.int .i64 (uK x),.int .i64 (uC x),.int .i64 (uN x),.int .i64 (uS x),.int .i64 (uD x),.int .i64 (uG x),.int .i64 (uO x)] 144))
 have HBk:=hid (Blk.new wm1 #[.int .i64 (uK x),.int .i64 (uC x),.int .i64 (uN x),.int .i64 (uS x),.int .i64 (uD x),.int .i64 (uG x),.int .i64 (uO x)] 144)
 have HS3:Hid (w.heap.size≤wm1.heap.size):=hid HT1.out.size
 go_wp2_with fail
 generalize wm1.alloc (.cells #[.int .i64 (uK x),.int .i64 (uC x),.int .i64 (uN x),.int .i64 (uS x),.int .i64 (uD x),.int .i64 (uG x),.int .i64 (uO x)] 144)=v3 at*
 generalize wm1.heap.size=bq at*
 have z0:=HBk.out.drew.cell 2 rfl
 go_region_held3 (fun w'=>w'.cell? ⟨bq,2,none⟩=some (.int .i64 (uN x))) (exact z0) (first|(go_at_call 95;refine(aZ HGa.out.drew P HP.out).mono ?_;rintro e w5 ⟨rfl,hG,hT⟩;have hT':=hT.qf;have HG5:=hid hG;have HT5:=hid (HTa.out.trans hT');have z0:=(HBk.out.touch hT' (fun hx=>NO.out _ HS3.out (Or.inr hx))).cell 2 rfl;clear hG hT hT'))
 have HG5:=HG5
 go_wp2_with fail
 refine(Hu HG5.out _ _ H12.out H13.out).mono ?_
 rintro e wm2 ⟨rfl,hG,hT⟩
 have HG2:=hid hG
 have HT2:Hid (Touch (inG p) _ wm2):=hid (HT5.out.trans hT)
 clear hG hT
 go_wp2_with fail
 refine(bQ HG2.out _ H11.out).mono ?_
 rintro e wm3 ⟨rfl,hG,hT⟩
 have HG3:=hid hG
 have HT3:Hid (Touch (inG p) _ wm3):=hid (HT2.out.trans hT)
 clear hG hT
 go_wp2_with fail
 go_ret
 exact⟨rfl,HG3.out,HT3.out⟩
theorem xY(i:Int)(hG:G w p c s)(H:ah c s.zs pool os)(ho:o∈os)(x:Int)(hx:nth s.zs (adr c o.h 0)=x)(P:Int)(hP:nth s.zs 10=P)(hi:¬i<0)(hs:¬uN x=P)(ph cu fi:Int)(hph:nth s.zs 11=ph)(hcu:nth s.zs 12=cu)(hfi:nth s.zs 13=fi)(h1:ph=1)(h2:¬cu=(o.h:Int)):Calls Tryz.prog 123 #[.pointer (some ⟨p.a,0,none⟩),.int .i64 ((o.h:Int)+1),.int .i64 i] w (GP w p c ⟨s.zs,s.m+6⟩ (.bool false)):=by
 have HI:=hid (fE hG H ho x hx)
 have HG:=hid hG
 have NO:Hid (∀i,w.heap.size≤i→¬jf p i):=hid (fun i hi hx=>by have:=hG.dW hx;omega)
 have hA:=H.obs o ho
 have hW:=hG.may.w
 have HB:=hid hA.hlt
 have HV:Hid (4<c.W):=hid (by omega)
 have e1:=bR hG.may hA.hlt
 have HP:=hid hP
 have hne:=neq_b hs
 have H11:=hid hph
 have H12:=hid hcu
 have H13:=hid hfi
 clear hP hs hph hcu hfi
 subst h1
 have q2:=neq_b h2
 clear h2
 clear hG H ho hA hW hx
 go_enter Tryz.func123,Tryz.ntmps123
 have HT0:Hid (Touch (inG p) w w):=hid (Touch.refl _ _)
 go_wp2_with fail
 refine(HI.out).mono ?_
 rintro e wm1 ⟨rfl,hG,hT⟩
 have HG1:=hid hG
 have HT1:Hid (Touch (inG p) _ wm1):=hid (HT0.out.trans hT)
 clear hG hT
 have HGa:=hid (HG1.out.alloc (.cells #[.int .i64 (uK x),.int .i64 (uC x),.int .i64 (uN x),.int .i64 (uS x),.int .i64 (uD x),.int .i64 (uG x),.int .i64 (uO x)] 144))
 have HTa:=hid (HT1.out.alloc (.cells #[.int .i64 (uK x),.int .i64 (uC x),.int .i64 (uN x),.int .i64 (uS x),.int .i64 (uD x),.int .i64 (uG x),.int .i64 (uO x)] 144))
 have HBk:=hid (Blk.new wm1 #[.int .i64 (uK x),.int .i64 (uC x),.int .i64 (uN x),.int .i64 (uS x),.int .i64 (uD x),.int .i64 (uG x),.int .i64 (uO x)] 144)
 have HS3:Hid (w.heap.size≤wm1.heap.size):=hid HT1.out.size
 go_wp2_with fail
 generalize wm1.alloc (.cells #[.int .i64 (uK x),.int .i64 (uC x),.int .i64 (uN x),.int .i64 (uS x),.int .i64 (uD x),.int .i64 (uG x),.int .i64 (uO x)] 144)=v3 at*
 generalize wm1.heap.size=bq at*
 have z0:=HBk.out.drew.cell 2 rfl
 go_region_held3 (fun w'=>w'.cell? ⟨bq,2,none⟩=some (.int .i64 (uN x))) (exact z0) (first|(go_at_call 95;refine(aZ HGa.out.drew P HP.out).mono ?_;rintro e w5 ⟨rfl,hG,hT⟩;have hT':=hT.qf;have HG5:=hid hG;have HT5:=hid (HTa.out.trans hT');have z0:=(HBk.out.touch hT' (fun hx=>NO.out _ HS3.out (Or.inr hx))).cell 2 rfl;clear hG hT hT'))
 have HG5:=HG5
 go_wp2_with fail
 refine(Hu HG5.out _ _ H12.out H13.out).mono ?_
 rintro e wm2 ⟨rfl,hG,hT⟩
 have HG2:=hid hG
 have HT2:Hid (Touch (inG p) _ wm2):=hid (HT5.out.trans hT)
 clear hG hT
 go_wp2_with fail
 refine(bQ HG2.out _ H11.out).mono ?_
 rintro e wm3 ⟨rfl,hG,hT⟩
 have HG3:=hid hG
 have HT3:Hid (Touch (inG p) _ wm3):=hid (HT2.out.trans hT)
 clear hG hT
 go_wp2_with fail
 go_ret
 exact⟨rfl,HG3.out,HT3.out⟩
theorem xZ(i:Int)(hG:G w p c s)(H:ah c s.zs pool os)(ho:o∈os)(x:Int)(hx:nth s.zs (adr c o.h 0)=x)(P:Int)(hP:nth s.zs 10=P)(hi:¬i<0)(hs:¬uN x=P)(ph cu fi:Int)(hph:nth s.zs 11=ph)(hcu:nth s.zs 12=cu)(hfi:nth s.zs 13=fi)(h1:ph=1)(h2:cu=(o.h:Int)):Calls Tryz.prog 123 #[.pointer (some ⟨p.a,0,none⟩),.int .i64 ((o.h:Int)+1),.int .i64 i] w (GP w p c ⟨s.zs,s.m+6⟩ (.bool (decide (i<fi)))):=by
 have HI:=hid (fE hG H ho x hx)
 have HG:=hid hG
 have NO:Hid (∀i,w.heap.size≤i→¬jf p i):=hid (fun i hi hx=>by have:=hG.dW hx;omega)
 have hA:=H.obs o ho
 have hW:=hG.may.w
 have HB:=hid hA.hlt
 have HV:Hid (4<c.W):=hid (by omega)
 have e1:=bR hG.may hA.hlt
 have HP:=hid hP
 have hne:=neq_b hs
 have H11:=hid hph
 have H12:=hid hcu
 have H13:=hid hfi
 clear hP hs hph hcu hfi
 subst h1 h2
 clear hG H ho hA hW hx
 go_enter Tryz.func123,Tryz.ntmps123
 have HT0:Hid (Touch (inG p) w w):=hid (Touch.refl _ _)
 go_wp2_with fail
 refine(HI.out).mono ?_
 rintro e wm1 ⟨rfl,hG,hT⟩
 have HG1:=hid hG
 have HT1:Hid (Touch (inG p) _ wm1):=hid (HT0.out.trans hT)
 clear hG hT
 have HGa:=hid (HG1.out.alloc (.cells #[.int .i64 (uK x),.int .i64 (uC x),.int .i64 (uN x),.int .i64 (uS x),.int .i64 (uD x),.int .i64 (uG x),.int .i64 (uO x)] 144))
 have HTa:=hid (HT1.out.alloc (.cells #[.int .i64 (uK x),.int .i64 (uC x),.int .i64 (uN x),.int .i64 (uS x),.int .i64 (uD x),.int .i64 (uG x),.int .i64 (uO x)] 144))
 have HBk:=hid (Blk.new wm1 #[.int .i64 (uK x),.int .i64 (uC x),.int .i64 (uN x),.int .i64 (uS x),.int .i64 (uD x),.int .i64 (uG x),.int .i64 (uO x)] 144)
 have HS3:Hid (w.heap.size≤wm1.heap.size):=hid HT1.out.size
 go_wp2_with fail
 generalize wm1.alloc (.cells #[.int .i64 (uK x),.int .i64 (uC x),.int .i64 (uN x),.int .i64 (uS x),.int .i64 (uD x),.int .i64 (uG x),.int .i64 (uO x)] 144)=v3 at*
 generalize wm1.heap.size=bq at*
 have z0:=HBk.out.drew.cell 2 rfl
 go_region_held3 (fun w'=>w'.cell? ⟨bq,2,none⟩=some (.int .i64 (uN x))) (exact z0) (first|(go_at_call 95;refine(aZ HGa.out.drew P HP.out).mono ?_;rintro e w5 ⟨rfl,hG,hT⟩;have hT':=hT.qf;have HG5:=hid hG;have HT5:=hid (HTa.out.trans hT');have z0:=(HBk.out.touch hT' (fun hx=>NO.out _ HS3.out (Or.inr hx))).cell 2 rfl;clear hG hT hT'))
 have HG5:=HG5
 go_wp2_with fail
 refine(Hu HG5.out _ _ H12.out H13.out).mono ?_
 rintro e wm2 ⟨rfl,hG,hT⟩
 have HG2:=hid hG
 have HT2:Hid (Touch (inG p) _ wm2):=hid (HT5.out.trans hT)
 clear hG hT
 go_wp2_with fail
 refine(bQ HG2.out _ H11.out).mono ?_
 rintro e wm3 ⟨rfl,hG,hT⟩
 have HG3:=hid hG
 have HT3:Hid (Touch (inG p) _ wm3):=hid (HT2.out.trans hT)
 clear hG hT
 go_wp2_with fail
 go_ret
 exact⟨rfl,HG3.out,HT3.out⟩
theorem Jt(P:Int)(hP:nth s.zs 10=P)(hG:G w p c s)(H:ah c s.zs pool os)(hr:In64 r)(ho:dJ os r=none):Calls Tryz.prog 69 #[.pointer (some ⟨p.a,0,none⟩),.int .i64 r] w (GP w p c ⟨s.zs,s.m+(1+dF (aB c (prev r) 0))⟩ (.bool false)):=by
 have hmf:∀(fn:Fn) (first cap:Array Value) (w:World),(Instr.makeFunc fn first cap).run Tryz.prog w=.ok (.func fn first cap) w:=fun _ _ _ _=>rfl
 have HC:=hid (fun(w':World) (m:Nat) (V:Value) (hG':G w' p c ⟨s.zs,m⟩)=>zw V hG' H hr ho)
 have HG:=hid hG
 have HP:=hid hP
 clear hP
 clear hG H hr ho
 go_enter Tryz.func69,Tryz.ntmps69
 have HT0:Hid (Touch (inG p) w w):=hid (Touch.refl _ _)
 go_wp2_with fail
 refine(aZ HG.out P HP.out).mono ?_
 rintro e wm1 ⟨rfl,hG,hT⟩
 have HG1:=hid hG
 have HT1:Hid (Touch (inG p) _ wm1):=hid (HT0.out.trans hT)
 clear hG hT
 have HGa:=hid (HG1.out.alloc (.cells #[.int .i64 P] 3))
 have HTa:=hid (HT1.out.alloc (.cells #[.int .i64 P] 3))
 go_wp2_with fail
 refine(HC.out _ _ _ HGa.out).mono ?_
 rintro e w2 ⟨rfl,hG,hT⟩
 have HG2:=hid hG
 have HT2:=hid (HTa.out.trans hT)
 clear hG hT
 go_wp2_with fail
 go_ret
 exact⟨rfl,HG2.out.fO rfl (by show s.m+1+_=_;simp only[Nat.add_assoc]),HT2.out⟩
theorem Ej(P:Int)(hP:nth s.zs 10=P)(hG:G w p c s)(H:ah c s.zs pool os)(hr:In64 r)(ho:dJ os r=none):Calls Tryz.prog 54 #[.pointer (some ⟨p.a,0,none⟩),.int .i64 r] w (GP w p c ⟨s.zs,s.m+(1+dF (aB c (prev r) 0))⟩ (.bool false)):=by
 have hmf:∀(fn:Fn) (first cap:Array Value) (w:World),(Instr.makeFunc fn first cap).run Tryz.prog w=.ok (.func fn first cap) w:=fun _ _ _ _=>rfl
 have HC:=hid (fun(w':World) (m:Nat) (V:Value) (hG':G w' p c ⟨s.zs,m⟩)=>zw V hG' H hr ho)
 have HG:=hid hG
 have HP:=hid hP
 clear hP
 clear hG H hr ho
 go_enter Tryz.func54,Tryz.ntmps54
 have HT0:Hid (Touch (inG p) w w):=hid (Touch.refl _ _)
 go_wp2_with fail
 refine(aZ HG.out P HP.out).mono ?_
 rintro e wm1 ⟨rfl,hG,hT⟩
 have HG1:=hid hG
 have HT1:Hid (Touch (inG p) _ wm1):=hid (HT0.out.trans hT)
 clear hG hT
 have HGa:=hid (HG1.out.alloc (.cells #[.int .i64 P] 3))
 have HTa:=hid (HT1.out.alloc (.cells #[.int .i64 P] 3))
 go_wp2_with fail
 refine(HC.out _ _ _ HGa.out).mono ?_
 rintro e w2 ⟨rfl,hG,hT⟩
 have HG2:=hid hG
 have HT2:=hid (HTa.out.trans hT)
 clear hG hT
 go_wp2_with fail
 go_ret
 exact⟨rfl,HG2.out.fO rfl (by show s.m+1+_=_;simp only[Nat.add_assoc]),HT2.out⟩
theorem FY(P:Int)(hP:nth s.zs 10=P)(hG:G w p c s)(H:ah c s.zs pool os)(hr:In64 r)(ho:dJ os r=none):Calls Tryz.prog 137 #[.pointer (some ⟨p.a,0,none⟩),.int .i64 r] w (GP w p c ⟨s.zs,s.m+(1+dF (aB c (prev r) 0))⟩ (.bool false)):=by
 have hmf:∀(fn:Fn) (first cap:Array Value) (w:World),(Instr.makeFunc fn first cap).run Tryz.prog w=.ok (.func fn first cap) w:=fun _ _ _ _=>rfl
 have HC:=hid (fun(w':World) (m:Nat) (V:Value) (hG':G w' p c ⟨s.zs,m⟩)=>zw V hG' H hr ho)
 have HG:=hid hG
 have HP:=hid hP
 clear hP
 clear hG H hr ho
 go_enter Tryz.func137,Tryz.ntmps137
 have HT0:Hid (Touch (inG p) w w):=hid (Touch.refl _ _)
 go_wp2_with fail
 refine(aZ HG.out P HP.out).mono ?_
 rintro e wm1 ⟨rfl,hG,hT⟩
 have HG1:=hid hG
 have HT1:Hid (Touch (inG p) _ wm1):=hid (HT0.out.trans hT)
 clear hG hT
 have HGa:=hid (HG1.out.alloc (.cells #[.int .i64 P] 3))
 have HTa:=hid (HT1.out.alloc (.cells #[.int .i64 P] 3))
 go_wp2_with fail
 refine(HC.out _ _ _ HGa.out).mono ?_
 rintro e w2 ⟨rfl,hG,hT⟩
 have HG2:=hid hG
 have HT2:=hid (HTa.out.trans hT)
 clear hG hT
 go_wp2_with fail
 go_ret
 exact⟨rfl,HG2.out.fO rfl (by show s.m+1+_=_;simp only[Nat.add_assoc]),HT2.out⟩
theorem Ga(hG:G w p c s)(H:ah c s.zs pool os)(hr:In64 r)(ho:dJ os r=none):Calls Tryz.prog 134 #[.pointer (some ⟨p.a,0,none⟩),.int .i64 r] w (GP w p c ⟨s.zs,s.m+(dF (aB c (prev r) 0))⟩ (.bool false)):=by
 have hmf:∀(fn:Fn) (first cap:Array Value) (w:World),(Instr.makeFunc fn first cap).run Tryz.prog w=.ok (.func fn first cap) w:=fun _ _ _ _=>rfl
 have HC:=hid (fun(w':World) (m:Nat) (V:Value) (hG':G w' p c ⟨s.zs,m⟩)=>zw V hG' H hr ho)
 have HG:=hid hG
 clear hG H hr ho
 go_enter Tryz.func134,Tryz.ntmps134
 have HT0:Hid (Touch (inG p) w w):=hid (Touch.refl _ _)
 go_wp2_with fail
 refine(HC.out _ _ _ HG.out).mono ?_
 rintro e w2 ⟨rfl,hG,hT⟩
 have HG2:=hid hG
 have HT2:=hid hT
 clear hG hT
 go_wp2_with fail
 go_ret
 exact⟨rfl,HG2.out.fO rfl (by show _=_;simp only[Nat.add_assoc]),HT2.out⟩
theorem Be(P:Int)(hP:nth s.zs 10=P)(h01:P=0∨P=1)(hG:G w p c s)(H:ah c s.zs pool os)(ho:o∈os)(x:Int)(hx:nth s.zs (adr c o.h 0)=x):Calls Tryz.prog 54 #[.pointer (some ⟨p.a,0,none⟩),.int .i64 ((o.h:Int)+1)] w (GP w p c ⟨s.zs.set (adr c o.h 0) (dD x P (uN x) (uS x) (uD x)),s.m+4⟩ (.bool true)):=by
 have hmf:∀(fn:Fn) (first cap:Array Value) (w:World),(Instr.makeFunc fn first cap).run Tryz.prog w=.ok (.func fn first cap) w:=fun _ _ _ _=>rfl
 have HC:=hid (fun(w':World) (q m:Nat) (hG':G w' p c ⟨s.zs,m⟩) (hq:Blk w' q #[.int .i64 P] 3) (hqo:¬jf p q)=>sO 114 Tryz.call114 q P hG' H ho x hx hq hqo P (uN x) (uS x) (uD x) h01 (bC x).2.1 (bC x).2.2.1 (bC x).2.2.2 (fun w'' b hq' hne hb'=>Mi _ _ _ _ _ _ _ _ _ w'' hq' hne hb'))
 have HG:=hid hG
 have HP:=hid hP
 clear hP hG H ho hx h01
 go_enter Tryz.func54,Tryz.ntmps54
 have HT0:Hid (Touch (inG p) w w):=hid (Touch.refl _ _)
 go_wp2_with fail
 refine(aZ HG.out P HP.out).mono ?_
 rintro e wm1 ⟨rfl,hG,hT⟩
 have HG1:=hid hG
 have HT1:Hid (Touch (inG p) _ wm1):=hid (HT0.out.trans hT)
 clear hG hT
 have HGa:=hid (HG1.out.alloc (.cells #[.int .i64 P] 3))
 have HTa:=hid (HT1.out.alloc (.cells #[.int .i64 P] 3))
 have HQa:=hid (Blk.new wm1 #[.int .i64 P] 3)
 have HQo:=hid HG1.out.nP
 go_wp2_with fail
 refine(HC.out _ _ _ HGa.out HQa.out HQo.out).mono ?_
 rintro e w2 ⟨rfl,hG,hT⟩
 have HG2:=hid hG
 have HT2:=hid (HTa.out.trans hT)
 clear hG hT
 go_wp2_with fail
 go_ret
 exact⟨rfl,HG2.out,HT2.out⟩
theorem Eg(P:Int)(hP:nth s.zs 10=P)(h01:P=0∨P=1)(hG:G w p c s)(H:ah c s.zs pool os)(ho:o∈os)(x:Int)(hx:nth s.zs (adr c o.h 0)=x):Calls Tryz.prog 137 #[.pointer (some ⟨p.a,0,none⟩),.int .i64 ((o.h:Int)+1)] w (GP w p c ⟨s.zs.set (adr c o.h 0) (dD x (uC x) P (uS x) (uD x)),s.m+4⟩ (.bool true)):=by
 have hmf:∀(fn:Fn) (first cap:Array Value) (w:World),(Instr.makeFunc fn first cap).run Tryz.prog w=.ok (.func fn first cap) w:=fun _ _ _ _=>rfl
 have HC:=hid (fun(w':World) (q m:Nat) (hG':G w' p c ⟨s.zs,m⟩) (hq:Blk w' q #[.int .i64 P] 3) (hqo:¬jf p q)=>sO 182 Tryz.call182 q P hG' H ho x hx hq hqo (uC x) P (uS x) (uD x) (bC x).1 h01 (bC x).2.2.1 (bC x).2.2.2 (fun w'' b hq' hne hb'=>Ou _ _ _ _ _ _ _ _ _ w'' hq' hne hb'))
 have HG:=hid hG
 have HP:=hid hP
 clear hP hG H ho hx h01
 go_enter Tryz.func137,Tryz.ntmps137
 have HT0:Hid (Touch (inG p) w w):=hid (Touch.refl _ _)
 go_wp2_with fail
 refine(aZ HG.out P HP.out).mono ?_
 rintro e wm1 ⟨rfl,hG,hT⟩
 have HG1:=hid hG
 have HT1:Hid (Touch (inG p) _ wm1):=hid (HT0.out.trans hT)
 clear hG hT
 have HGa:=hid (HG1.out.alloc (.cells #[.int .i64 P] 3))
 have HTa:=hid (HT1.out.alloc (.cells #[.int .i64 P] 3))
 have HQa:=hid (Blk.new wm1 #[.int .i64 P] 3)
 have HQo:=hid HG1.out.nP
 go_wp2_with fail
 refine(HC.out _ _ _ HGa.out HQa.out HQo.out).mono ?_
 rintro e w2 ⟨rfl,hG,hT⟩
 have HG2:=hid hG
 have HT2:=hid (HTa.out.trans hT)
 clear hG hT
 go_wp2_with fail
 go_ret
 exact⟨rfl,HG2.out,HT2.out⟩
theorem FZ(P:Int)(hP:nth s.zs 10=P)(h01:P=0∨P=1)(hG:G w p c s)(H:ah c s.zs pool os)(ho:o∈os)(x:Int)(hx:nth s.zs (adr c o.h 0)=x):Calls Tryz.prog 69 #[.pointer (some ⟨p.a,0,none⟩),.int .i64 ((o.h:Int)+1)] w (GP w p c ⟨(s.zs.set (adr c o.h 0) (dD x P P P (uD x))).set (adr c o.h 4) 0,s.m+5⟩ (.bool true)):=by
 have hmf:∀(fn:Fn) (first cap:Array Value) (w:World),(Instr.makeFunc fn first cap).run Tryz.prog w=.ok (.func fn first cap) w:=fun _ _ _ _=>rfl
 have HC:=hid (fun(w':World) (q m:Nat) (hG':G w' p c ⟨s.zs,m⟩) (hq:Blk w' q #[.int .i64 P] 3) (hqo:¬jf p q)=>sO 130 Tryz.call130 q P hG' H ho x hx hq hqo P P P (uD x) h01 h01 h01 (bC x).2.2.2 (fun w'' b hq' hne hb'=>Qo _ _ _ _ _ _ _ _ _ w'' hq' hne hb'))
 have hA:=H.obs o ho
 have hW:=hG.may.w
 have HB:=hid hA.hlt
 have HV:Hid (4<c.W):=hid (by omega)
 have e1:=bR hG.may hA.hlt
 clear hA hW
 have HG:=hid hG
 have HP:=hid hP
 clear hP hG H ho hx h01
 go_enter Tryz.func69,Tryz.ntmps69
 have HT0:Hid (Touch (inG p) w w):=hid (Touch.refl _ _)
 go_wp2_with fail
 refine(aZ HG.out P HP.out).mono ?_
 rintro e wm1 ⟨rfl,hG,hT⟩
 have HG1:=hid hG
 have HT1:Hid (Touch (inG p) _ wm1):=hid (HT0.out.trans hT)
 clear hG hT
 have HGa:=hid (HG1.out.alloc (.cells #[.int .i64 P] 3))
 have HTa:=hid (HT1.out.alloc (.cells #[.int .i64 P] 3))
 have HQa:=hid (Blk.new wm1 #[.int .i64 P] 3)
 have HQo:=hid HG1.out.nP
 go_wp2_with fail
 refine(HC.out _ _ _ HGa.out HQa.out HQo.out).mono ?_
 rintro e w2 ⟨rfl,hG,hT⟩
 have HG2:=hid hG
 have HT2:=hid (HTa.out.trans hT)
 clear hG hT
 go_wp2_with fail
 refine(aK p c _ o.h 4 _ _ 0 _ HG2.out HB.out HV.out rfl rfl (by omega) (by omega)).mono ?_
 rintro e wm2 ⟨rfl,hG,hT⟩
 have HG2:=hid hG
 have HT2:Hid (Touch (inG p) _ wm2):=hid (HT2.out.trans hT)
 clear hG hT
 go_wp2_with fail
 go_ret
 exact⟨rfl,HG2.out,HT2.out⟩
theorem Eh(hG:G w p c s)(H:ah c s.zs pool os)(ho:o∈os)(x:Int)(hx:nth s.zs (adr c o.h 0)=x)(hd:uD x=0):Calls Tryz.prog 134 #[.pointer (some ⟨p.a,0,none⟩),.int .i64 ((o.h:Int)+1)] w (GP w p c ⟨s.zs.set (adr c o.h 0) (dD x (uC x) (uN x) (uS x) 1),s.m+3⟩ (.bool true)):=by
 have hmf:∀(fn:Fn) (first cap:Array Value) (w:World),(Instr.makeFunc fn first cap).run Tryz.prog w=.ok (.func fn first cap) w:=fun _ _ _ _=>rfl
 have HC:=hid (fun(w':World) (m:Nat) (hG':G w' p c ⟨s.zs,m⟩)=>Oi 176 Tryz.call176 hG' H ho x hx (uC x) (uN x) (uS x) 1 (bC x).1 (bC x).2.1 (bC x).2.2.1 (Or.inr rfl) (fun w'' b hb'=>Ov _ _ _ _ _ _ _ w'' hb' hd))
 have HG:=hid hG
 clear hG H ho hx hd
 go_enter Tryz.func134,Tryz.ntmps134
 have HT0:Hid (Touch (inG p) w w):=hid (Touch.refl _ _)
 go_wp2_with fail
 refine(HC.out _ _ HG.out).mono ?_
 rintro e wm1 ⟨rfl,hG,hT⟩
 have HG1:=hid hG
 have HT1:Hid (Touch (inG p) _ wm1):=hid (HT0.out.trans hT)
 clear hG hT
 go_wp2_with fail
 go_ret
 exact⟨rfl,HG1.out,HT1.out⟩
theorem Bc(hG:G w p c s)(H:ah c s.zs pool os)(ho:o∈os)(x:Int)(hx:nth s.zs (adr c o.h 0)=x)(hd:uD x=1):Calls Tryz.prog 134 #[.pointer (some ⟨p.a,0,none⟩),.int .i64 ((o.h:Int)+1)] w (GP w p c ⟨s.zs,s.m+2⟩ (.bool false)):=by
 have hmf:∀(fn:Fn) (first cap:Array Value) (w:World),(Instr.makeFunc fn first cap).run Tryz.prog w=.ok (.func fn first cap) w:=fun _ _ _ _=>rfl
 have HC:=hid (fun(w':World) (m:Nat) (hG':G w' p c ⟨s.zs,m⟩)=>Me 176 Tryz.call176 hG' H ho x hx (fun w'' b hb'=>FU _ _ _ _ _ _ _ w'' hb' hd))
 have HG:=hid hG
 clear hG H ho hx hd
 go_enter Tryz.func134,Tryz.ntmps134
 have HT0:Hid (Touch (inG p) w w):=hid (Touch.refl _ _)
 go_wp2_with fail
 refine(HC.out _ _ HG.out).mono ?_
 rintro e wm1 ⟨rfl,hG,hT⟩
 have HG1:=hid hG
 have HT1:Hid (Touch (inG p) _ wm1):=hid (HT0.out.trans hT)
 clear hG hT
 go_wp2_with fail
 go_ret
 exact⟨rfl,HG1.out,HT1.out⟩
end
end Go.Proofs.YtjmifnljckmimaaGreat.Pk
