/-
  What the functions of package shape return.
-/
import Derived.Test.YtofhdfjkhfkhiaaGreatShapeEtc
import Derived.OwnWalk
namespace Go.Proofs.YtofhdfjkhfkhiaaGreat.Pk
open Lib (hid)
open Go.RowKit
set_option linter.unusedVariables false
set_option linter.unusedSimpArgs false
set_option maxHeartbeats 400000 in
theorem iq(W p d:Int)(w:World):
  Calls Tryz.prog 110 #[.int .i64 W,.int .i64 p,.int .i64 d] w fun e w'=>e=.returned (.tuple #[.int .i64 (bG W p d),.int .i64 (dB W p d)])∧Below w.heap.size w w':=by
 by_cases he:dB W p d=0
 ·have E:Hid (bG W p d=1+bX W (p+d)):=hid (by unfold bG;rw[if_pos he])
  obtain⟨h0,h1,h2,h3,h4⟩:=qm he
  have hf:=gV h0 h1
  have L:=kI h0 h1 h4
  have HL:Hid (∀w',Calls Tryz.prog 170 #[.int .i64 W,.int .i64 (p+d)] w' fun e w''=>e=.returned (.int .i64 (bX W (p+d)))∧w'=w''):=hid (fun w'=>vI W _ w' h0 h1 (by omega) h4)
  rw[he]
  have HE:=hid he
  clear he
  go_enter Tryz.func110,Tryz.ntmps110
  go_wp2_with fail
  refine(mi _ _ _ _ _ (by simp)).mono ?_
  rw[HE.out,if_pos rfl]
  rintro e w1 ⟨rfl,hb⟩
  have HB:=hid hb
  clear hb
  go_wp2_with fail
  refine(HL.out _).mono ?_
  rintro e w1 ⟨rfl,rfl⟩
  go_wp2_with fail
  go_ret2
  exact⟨by rw[E.out];rfl,HB.out⟩
 ·have E:Hid (bG W p d=0):=hid (by unfold bG;rw[if_neg he])
  have g:=ui he
  have HE:=hid he
  clear he
  go_enter Tryz.func110,Tryz.ntmps110
  go_wp2_with fail
  refine(mi _ _ _ _ _ (by simp)).mono ?_
  rw[if_neg HE.out]
  rintro e w1 ⟨rfl,hb⟩
  have HB:=hid hb
  clear hb
  go_wp2_with fail
  go_ret2
  exact⟨by rw[E.out];rfl,HB.out⟩
def jo(W n i:Int)(w:World)(e:Ending)(w':World):Prop:=
 e=.returned (.tuple #[.int .i64 (jM W n i),.int .i64 (jc W n i),.int .i64 (dM W n i)])∧Below w.heap.size w w'
set_option maxHeartbeats 400000 in
theorem wV(W n i:Int)(w:World)(he:dN W n≠0):
  Calls Tryz.prog 171 #[.int .i64 W,.int .i64 n,.int .i64 i] w (jo W n i w):=by
 have e1:dM W n i=dN W n:=by unfold dM;rw[if_neg he]
 have e2:=sH (W:=W) (n:=n) (i:=i) (by rw[e1];exact he)
 have E:Hid (jM W n i=0∧jc W n i=0∧dM W n i=dN W n):=hid ⟨e2.1,e2.2,e1⟩
 clear e1 e2
 have g:=ui he
 have HE:=hid he
 clear he
 go_enter Tryz.func171,Tryz.ntmps171
 go_wp2_with fail
 refine(gK _ _ _ _ (by simp)).mono ?_
 rw[if_neg HE.out]
 rintro e w1 ⟨rfl,hb⟩
 have HB:=hid hb
 clear hb
 go_wp2_with fail
 go_ret3
 exact⟨by rw[E.out.1,E.out.2.1,E.out.2.2];rfl,HB.out⟩
set_option maxHeartbeats 400000 in
theorem zA(W n i:Int)(w:World)(he:dN W n=0)(hi:i<0∨n≤i):
  Calls Tryz.prog 171 #[.int .i64 W,.int .i64 n,.int .i64 i] w (jo W n i w):=by
 have e1:dM W n i=7:=by unfold dM;rw[if_pos he,if_pos hi]
 have e2:=sH (W:=W) (n:=n) (i:=i) (by rw[e1];decide)
 have E:Hid (jM W n i=0∧jc W n i=0∧dM W n i=7):=hid ⟨e2.1,e2.2,e1⟩
 clear e1 e2
 have HE:=hid he
 clear he
 by_cases h:i<0
 all_goals
  go_enter Tryz.func171,Tryz.ntmps171
  go_wp2_with fail
  refine(gK _ _ _ _ (by simp)).mono ?_
  rw[HE.out,if_pos rfl]
  rintro e w1 ⟨rfl,hb⟩
  have HB:=hid hb
  clear hb
  have hi2:i<0∨n≤i:=hi
  go_wp2_with fail
  go_ret3
  exact⟨by rw[E.out.1,E.out.2.1,E.out.2.2];rfl,HB.out⟩
set_option maxHeartbeats 400000 in
theorem wU(W n i:Int)(w:World)(hp:dM W n i=0)(hn:n≤W-8):
  Calls Tryz.prog 171 #[.int .i64 W,.int .i64 n,.int .i64 i] w (jo W n i w):=by
 obtain⟨he,i0,i1⟩:=ym hp
 obtain⟨h0,h1,h2,h3⟩:=yD he
 obtain⟨e2,e3⟩:=sG hp hn
 have E:Hid (jM W n i= -1∧jc W n i=8+i∧dM W n i=0):=hid ⟨e2,e3,hp⟩
 have A:Hid (qG W (-1)=0):=hid (FE h0 h1 (by decide))
 have HE:=hid he
 clear he e2 e3 hp
 go_enter Tryz.func171,Tryz.ntmps171
 go_wp2_with fail
 refine(gK _ _ _ _ (by simp)).mono ?_
 rw[HE.out,if_pos rfl]
 rintro e w1 ⟨rfl,hb⟩
 have HB:=hid hb
 clear hb
 go_wp2_with fail
 refine(oF _ _ _ h0 h1 hn).mono ?_
 rintro e w2 ⟨rfl,rfl⟩
 go_wp2_with fail
 refine(jT (sM _ _) (show rE (-1)=8 from rfl)).mono ?_
 rintro e w2 ⟨rfl,rfl⟩
 go_wp2_with fail
 refine(sK _ _ _ h0 h1).mono ?_
 rw[A.out]
 rintro e w2 ⟨rfl,hb⟩
 have HB2:=hid (below_step HB.out hb)
 clear hb
 go_wp2_with fail
 go_ret3
 exact⟨by rw[E.out.1,E.out.2.1,E.out.2.2];rfl,HB2.out⟩
set_option maxHeartbeats 400000 in
theorem Cb(W n i:Int)(w:World)(hp:dM W n i=0)(hn:W-8<n):
  Calls Tryz.prog 171 #[.int .i64 W,.int .i64 n,.int .i64 i] w (jo W n i w):=by
 obtain⟨he,i0,i1⟩:=ym hp
 obtain⟨h0,h1,h2,h3⟩:=yD he
 obtain⟨e2,e3⟩:=yn hp hn
 have hf:=gV h0 h1
 obtain⟨p1,p2,p3,p4⟩:=LG (m:=W-1) (i:=i) (by omega) i0
 have hq:i/(W-1)≤248:=by
  by_cases h:i/(W-1)≤W-8
  ·omega
  ·have:=Lj (m:=W-1) (a:=W-8) (b:=i/(W-1)) (by omega) (by omega)
   have:(W-8)*(W-1)=fieldsI W:=rfl
   omega
 have hd:IE i (W-1)=i/(W-1):=by unfold IE Ho;rw[gN i0 (by omega),gN (by omega) (by omega),if_neg (by omega)]
 have A:=Ip (l:=i/(W-1)) h0 h1 p4 (by omega)
 have st:rE (i/(W-1))=1:=by unfold rE;rw[if_neg (by omega)]
 have D:Hid (∀w',Calls Tryz.prog 209 #[.int .i64 i,.int .i64 (W-1)] w' fun e w''=>e=.returned (.int .i64 (i/(W-1)))∧w'=w''):=hid (fun w'=>jT (IG _ _ _) hd)
 have S:Hid (∀w',Calls Tryz.prog 210 #[.int .i64 (i/(W-1))] w' fun e w''=>e=.returned (.int .i64 1)∧w'=w''):=hid (fun w'=>jT (sM _ _) st)
 have HA:Hid (∀w',Calls Tryz.prog 211 #[.int .i64 W,.int .i64 (i/(W-1))] w' fun e w''=>e=.returned (.int .i64 (i/(W-1)*(W-1)))∧Below w'.heap.size w' w''):=hid (fun w'=>by have:=sK W (i/(W-1)) w' h0 h1;rw[A] at this;exact this)
 have e4:jc W n i=1+i-i/(W-1)*(W-1):=by rw[e3];omega
 have hb4:=xW p4 (show 0≤W-1 by omega) hq (show W-1≤255 by omega)
 have E:Hid (jM W n i=i/(W-1)∧jc W n i=1+i-i/(W-1)*(W-1)∧dM W n i=0):=hid ⟨e2,e4,hp⟩
 have HE:=hid he
 clear he e2 e3 e4 hp A st hd p1 p2 p3
 generalize i/(W-1)*(W-1)=B at*
 generalize i/(W-1)=q at*
 go_enter Tryz.func171,Tryz.ntmps171
 go_wp2_with fail
 refine(gK _ _ _ _ (by simp)).mono ?_
 rw[HE.out,if_pos rfl]
 rintro e w1 ⟨rfl,hb⟩
 have HB:=hid hb
 clear hb
 go_wp2_with fail
 refine(ql _ _ _ h0 h1 hn).mono ?_
 rintro e w2 ⟨rfl,rfl⟩
 go_wp2_with fail
 refine(iP _ _ h0 h1).mono ?_
 rintro e w2 ⟨rfl,rfl⟩
 go_wp2_with fail
 refine(D.out _).mono ?_
 rintro e w2 ⟨rfl,rfl⟩
 go_wp2_with fail
 refine(S.out _).mono ?_
 rintro e w2 ⟨rfl,rfl⟩
 go_wp2_with fail
 refine(HA.out _).mono ?_
 rintro e w2 ⟨rfl,hb⟩
 have HB2:=hid (below_step HB.out hb)
 clear hb
 go_wp2_with fail
 go_ret3
 exact⟨by rw[E.out.1,E.out.2.1,E.out.2.2];rfl,HB2.out⟩
theorem Ca(W n i:Int)(w:World):
  Calls Tryz.prog 171 #[.int .i64 W,.int .i64 n,.int .i64 i] w (jo W n i w):=by
 by_cases he:dN W n=0
 ·by_cases hi:i<0∨n≤i
  ·exact zA W n i w he hi
  ·have hp:=yl he (i:=i) (by omega) (by omega)
   by_cases hn:n≤W-8
   ·exact wU W n i w hp hn
   ·exact Cb W n i w hp (by omega)
 ·exact wV W n i w he
end Go.Proofs.YtofhdfjkhfkhiaaGreat.Pk
