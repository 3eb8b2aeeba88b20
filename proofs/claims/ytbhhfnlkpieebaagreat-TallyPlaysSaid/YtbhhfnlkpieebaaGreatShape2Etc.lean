/-
  What the functions of package shape return.
-/
import Derived.Test.YtbhhfnlkpieebaaGreatShapeEtc
import Derived.OwnWalk
namespace Go.Proofs.YtbhhfnlkpieebaaGreat.Pk
open Lib (hid)
open Go.RowKit
set_option linter.unusedVariables false
set_option linter.unusedSimpArgs false
set_option maxHeartbeats 400000 in
theorem gT(W p d:Int)(w:World):
  Calls Tryz.prog 107 #[.int .i64 W,.int .i64 p,.int .i64 d] w fun e w'=>e=.returned (.tuple #[.int .i64 (blocksV W p d),.int .i64 (sizeE W p d)])∧Below w.heap.size w w':=by
 by_cases he:sizeE W p d=0
 ·have E:Hid (blocksV W p d=1+aN W (p+d)):=hid (by unfold blocksV;rw[if_pos he])
  obtain⟨h0,h1,h2,h3,h4⟩:=qA he
  have hf:=bQ h0 h1
  have L:=ji h0 h1 h4
  have HL:Hid (∀w',Calls Tryz.prog 166 #[.int .i64 W,.int .i64 (p+d)] w' fun e w''=>e=.returned (.int .i64 (aN W (p+d)))∧w'=w''):=hid (fun w'=>vz W _ w' h0 h1 (by omega) h4)
  rw[he]
  have HE:=hid he
  clear he
  go_enter Tryz.func107,Tryz.ntmps107
  go_wp2_with fail
  refine(mH _ _ _ _ _ (by simp)).mono ?_
  rw[HE.out,if_pos rfl]
  rintro e w1 ⟨rfl,hb⟩
  have HB:=hid hb
  clear hb
  go_wp2_with fail
  refine(HL.out _).mono ?_
  rintro e w1 ⟨rfl,rfl⟩
  go_wp2_with fail
  go_ret2
  exact⟨by rw[E.out];rfl,HB.out⟩
 ·have E:Hid (blocksV W p d=0):=hid (by unfold blocksV;rw[if_neg he])
  have g:=mX he
  have HE:=hid he
  clear he
  go_enter Tryz.func107,Tryz.ntmps107
  go_wp2_with fail
  refine(mH _ _ _ _ _ (by simp)).mono ?_
  rw[if_neg HE.out]
  rintro e w1 ⟨rfl,hb⟩
  have HB:=hid hb
  clear hb
  go_wp2_with fail
  go_ret2
  exact⟨by rw[E.out];rfl,HB.out⟩
def jf(W n i:Int)(w:World)(e:Ending)(w':World):Prop:=
 e=.returned (.tuple #[.int .i64 (fG W n i),.int .i64 (dU W n i),.int .i64 (bu W n i)])∧Below w.heap.size w w'
set_option maxHeartbeats 400000 in
theorem wH(W n i:Int)(w:World)(he:bi W n≠0):
  Calls Tryz.prog 190 #[.int .i64 W,.int .i64 n,.int .i64 i] w (jf W n i w):=by
 have e1:bu W n i=bi W n:=by unfold bu;rw[if_neg he]
 have e2:=jY (W:=W) (n:=n) (i:=i) (by rw[e1];exact he)
 have E:Hid (fG W n i=0∧dU W n i=0∧bu W n i=bi W n):=hid ⟨e2.1,e2.2,e1⟩
 clear e1 e2
 have g:=mX he
 have HE:=hid he
 clear he
 go_enter Tryz.func190,Tryz.ntmps190
 go_wp2_with fail
 refine(fQ _ _ _ _ (by simp)).mono ?_
 rw[if_neg HE.out]
 rintro e w1 ⟨rfl,hb⟩
 have HB:=hid hb
 clear hb
 go_wp2_with fail
 go_ret3
 exact⟨by rw[E.out.1,E.out.2.1,E.out.2.2];rfl,HB.out⟩
set_option maxHeartbeats 400000 in
theorem zl(W n i:Int)(w:World)(he:bi W n=0)(hi:i<0∨n≤i):
  Calls Tryz.prog 190 #[.int .i64 W,.int .i64 n,.int .i64 i] w (jf W n i w):=by
 have e1:bu W n i=7:=by unfold bu;rw[if_pos he,if_pos hi]
 have e2:=jY (W:=W) (n:=n) (i:=i) (by rw[e1];decide)
 have E:Hid (fG W n i=0∧dU W n i=0∧bu W n i=7):=hid ⟨e2.1,e2.2,e1⟩
 clear e1 e2
 have HE:=hid he
 clear he
 by_cases h:i<0
 all_goals
  go_enter Tryz.func190,Tryz.ntmps190
  go_wp2_with fail
  refine(fQ _ _ _ _ (by simp)).mono ?_
  rw[HE.out,if_pos rfl]
  rintro e w1 ⟨rfl,hb⟩
  have HB:=hid hb
  clear hb
  have hi2:i<0∨n≤i:=hi
  go_wp2_with fail
  go_ret3
  exact⟨by rw[E.out.1,E.out.2.1,E.out.2.2];rfl,HB.out⟩
set_option maxHeartbeats 400000 in
theorem wG(W n i:Int)(w:World)(hp:bu W n i=0)(hn:n≤W-8):
  Calls Tryz.prog 190 #[.int .i64 W,.int .i64 n,.int .i64 i] w (jf W n i w):=by
 obtain⟨he,i0,i1⟩:=oq hp
 obtain⟨h0,h1,h2,h3⟩:=oG he
 obtain⟨e2,e3⟩:=jX hp hn
 have E:Hid (fG W n i= -1∧dU W n i=8+i∧bu W n i=0):=hid ⟨e2,e3,hp⟩
 have A:Hid (qJ W (-1)=0):=hid (FR h0 h1 (by decide))
 have HE:=hid he
 clear he e2 e3 hp
 go_enter Tryz.func190,Tryz.ntmps190
 go_wp2_with fail
 refine(fQ _ _ _ _ (by simp)).mono ?_
 rw[HE.out,if_pos rfl]
 rintro e w1 ⟨rfl,hb⟩
 have HB:=hid hb
 clear hb
 go_wp2_with fail
 refine(oZ _ _ _ h0 h1 hn).mono ?_
 rintro e w2 ⟨rfl,rfl⟩
 go_wp2_with fail
 refine(jN (sG _ _) (show rF (-1)=8 from rfl)).mono ?_
 rintro e w2 ⟨rfl,rfl⟩
 go_wp2_with fail
 refine(sF _ _ _ h0 h1).mono ?_
 rw[A.out]
 rintro e w2 ⟨rfl,hb⟩
 have HB2:=hid (below_step HB.out hb)
 clear hb
 go_wp2_with fail
 go_ret3
 exact⟨by rw[E.out.1,E.out.2.1,E.out.2.2];rfl,HB2.out⟩
set_option maxHeartbeats 400000 in
theorem BZ(W n i:Int)(w:World)(hp:bu W n i=0)(hn:W-8<n):
  Calls Tryz.prog 190 #[.int .i64 W,.int .i64 n,.int .i64 i] w (jf W n i w):=by
 obtain⟨he,i0,i1⟩:=oq hp
 obtain⟨h0,h1,h2,h3⟩:=oG he
 obtain⟨e2,e3⟩:=ou hp hn
 have hf:=bQ h0 h1
 obtain⟨p1,p2,p3,p4⟩:=Fw (m:=W-1) (i:=i) (by omega) i0
 have hq:i/(W-1)≤248:=by
  by_cases h:i/(W-1)≤W-8
  ·omega
  ·have:=Fe (m:=W-1) (a:=W-8) (b:=i/(W-1)) (by omega) (by omega)
   have:(W-8)*(W-1)=au W:=rfl
   omega
 have hd:IY i (W-1)=i/(W-1):=by unfold IY Io;rw[fZ i0 (by omega),fZ (by omega) (by omega),if_neg (by omega)]
 have A:=IK (l:=i/(W-1)) h0 h1 p4 (by omega)
 have st:rF (i/(W-1))=1:=by unfold rF;rw[if_neg (by omega)]
 have D:Hid (∀w',Calls Tryz.prog 219 #[.int .i64 i,.int .i64 (W-1)] w' fun e w''=>e=.returned (.int .i64 (i/(W-1)))∧w'=w''):=hid (fun w'=>jN (IZ _ _ _) hd)
 have S:Hid (∀w',Calls Tryz.prog 220 #[.int .i64 (i/(W-1))] w' fun e w''=>e=.returned (.int .i64 1)∧w'=w''):=hid (fun w'=>jN (sG _ _) st)
 have HA:Hid (∀w',Calls Tryz.prog 221 #[.int .i64 W,.int .i64 (i/(W-1))] w' fun e w''=>e=.returned (.int .i64 (i/(W-1)*(W-1)))∧Below w'.heap.size w' w''):=hid (fun w'=>by have:=sF W (i/(W-1)) w' h0 h1;rw[A] at this;exact this)
 have e4:dU W n i=1+i-i/(W-1)*(W-1):=by rw[e3];omega
 have hb4:=xN p4 (show 0≤W-1 by omega) hq (show W-1≤255 by omega)
 have E:Hid (fG W n i=i/(W-1)∧dU W n i=1+i-i/(W-1)*(W-1)∧bu W n i=0):=hid ⟨e2,e4,hp⟩
 have HE:=hid he
 clear he e2 e3 e4 hp A st hd p1 p2 p3
 generalize i/(W-1)*(W-1)=B at*
 generalize i/(W-1)=q at*
 go_enter Tryz.func190,Tryz.ntmps190
 go_wp2_with fail
 refine(fQ _ _ _ _ (by simp)).mono ?_
 rw[HE.out,if_pos rfl]
 rintro e w1 ⟨rfl,hb⟩
 have HB:=hid hb
 clear hb
 go_wp2_with fail
 refine(qz _ _ _ h0 h1 hn).mono ?_
 rintro e w2 ⟨rfl,rfl⟩
 go_wp2_with fail
 refine(iG _ _ h0 h1).mono ?_
 rintro e w2 ⟨rfl,rfl⟩
 go_wp2_with fail
 refine(D.out _).mono ?_
 rintro e w2 ⟨rfl,rfl⟩
 go_wp2_with fail
 refine(S.out _).mono ?_
 rintro e w2 ⟨rfl,rfl⟩
 go_wp2_with fail
 refine(HA.out _).mono ?_
 rintro e w2 ⟨rfl,hb⟩
 have HB2:=hid (below_step HB.out hb)
 clear hb
 go_wp2_with fail
 go_ret3
 exact⟨by rw[E.out.1,E.out.2.1,E.out.2.2];rfl,HB2.out⟩
theorem BX(W n i:Int)(w:World):
  Calls Tryz.prog 190 #[.int .i64 W,.int .i64 n,.int .i64 i] w (jf W n i w):=by
 by_cases he:bi W n=0
 ·by_cases hi:i<0∨n≤i
  ·exact zl W n i w he hi
  ·have hp:=oo he (i:=i) (by omega) (by omega)
   by_cases hn:n≤W-8
   ·exact wG W n i w hp hn
   ·exact BZ W n i w hp (by omega)
 ·exact wH W n i w he
end Go.Proofs.YtbhhfnlkpieebaaGreat.Pk
