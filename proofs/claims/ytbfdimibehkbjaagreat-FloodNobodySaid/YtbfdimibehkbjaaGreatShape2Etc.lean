/-
  What the functions of package shape return.
-/
import Derived.Test.YtbfdimibehkbjaaGreatShapeEtc
import Derived.OwnWalk
namespace Go.Proofs.YtbfdimibehkbjaaGreat.Pk
open Lib (hid)
open Go.RowKit
set_option linter.unusedVariables false
set_option linter.unusedSimpArgs false
set_option maxHeartbeats 400000 in
theorem ko(W p d:Int)(w:World):
  Calls Tryz.prog 125 #[.int .i64 W,.int .i64 p,.int .i64 d] w fun e w'=>e=.returned (.tuple #[.int .i64 (bX W p d),.int .i64 (dR W p d)])∧Below w.heap.size w w':=by
 by_cases he:dR W p d=0
 ·have E:Hid (bX W p d=1+dJ W (p+d)):=hid (by unfold bX;rw[if_pos he])
  obtain⟨h0,h1,h2,h3,h4⟩:=sj he
  have hf:=iU h0 h1
  have L:=mg h0 h1 h4
  have HL:Hid (∀w',Calls Tryz.prog 176 #[.int .i64 W,.int .i64 (p+d)] w' fun e w''=>e=.returned (.int .i64 (dJ W (p+d)))∧w'=w''):=hid (fun w'=>xm W _ w' h0 h1 (by omega) h4)
  rw[he]
  have HE:=hid he
  clear he
  go_enter Tryz.func125,Tryz.ntmps125
  go_wp2_with fail
  refine(nV _ _ _ _ _ (by simp)).mono ?_
  rw[HE.out,if_pos rfl]
  rintro e w1 ⟨rfl,hb⟩
  have HB:=hid hb
  clear hb
  go_wp2_with fail
  refine(HL.out _).mono ?_
  rintro e w1 ⟨rfl,rfl⟩
  go_wp2_with fail
  go_ret2
  exact⟨by rw[E.out];rfl,HB.out⟩
 ·have E:Hid (bX W p d=0):=hid (by unfold bX;rw[if_neg he])
  have g:=vV he
  have HE:=hid he
  clear he
  go_enter Tryz.func125,Tryz.ntmps125
  go_wp2_with fail
  refine(nV _ _ _ _ _ (by simp)).mono ?_
  rw[if_neg HE.out]
  rintro e w1 ⟨rfl,hb⟩
  have HB:=hid hb
  clear hb
  go_wp2_with fail
  go_ret2
  exact⟨by rw[E.out];rfl,HB.out⟩
def ku(W n i:Int)(w:World)(e:Ending)(w':World):Prop:=
 e=.returned (.tuple #[.int .i64 (kT W n i),.int .i64 (jQ W n i),.int .i64 (fo W n i)])∧Below w.heap.size w w'
set_option maxHeartbeats 400000 in
theorem yg(W n i:Int)(w:World)(he:fq W n≠0):
  Calls Tryz.prog 177 #[.int .i64 W,.int .i64 n,.int .i64 i] w (ku W n i w):=by
 have e1:fo W n i=fq W n:=by unfold fo;rw[if_neg he]
 have e2:=uT (W:=W) (n:=n) (i:=i) (by rw[e1];exact he)
 have E:Hid (kT W n i=0∧jQ W n i=0∧fo W n i=fq W n):=hid ⟨e2.1,e2.2,e1⟩
 clear e1 e2
 have g:=vV he
 have HE:=hid he
 clear he
 go_enter Tryz.func177,Tryz.ntmps177
 go_wp2_with fail
 refine(iE _ _ _ _ (by simp)).mono ?_
 rw[if_neg HE.out]
 rintro e w1 ⟨rfl,hb⟩
 have HB:=hid hb
 clear hb
 go_wp2_with fail
 go_ret3
 exact⟨by rw[E.out.1,E.out.2.1,E.out.2.2];rfl,HB.out⟩
set_option maxHeartbeats 400000 in
theorem Ap(W n i:Int)(w:World)(he:fq W n=0)(hi:i<0∨n≤i):
  Calls Tryz.prog 177 #[.int .i64 W,.int .i64 n,.int .i64 i] w (ku W n i w):=by
 have e1:fo W n i=7:=by unfold fo;rw[if_pos he,if_pos hi]
 have e2:=uT (W:=W) (n:=n) (i:=i) (by rw[e1];decide)
 have E:Hid (kT W n i=0∧jQ W n i=0∧fo W n i=7):=hid ⟨e2.1,e2.2,e1⟩
 clear e1 e2
 have HE:=hid he
 clear he
 by_cases h:i<0
 all_goals
  go_enter Tryz.func177,Tryz.ntmps177
  go_wp2_with fail
  refine(iE _ _ _ _ (by simp)).mono ?_
  rw[HE.out,if_pos rfl]
  rintro e w1 ⟨rfl,hb⟩
  have HB:=hid hb
  clear hb
  have hi2:i<0∨n≤i:=hi
  go_wp2_with fail
  go_ret3
  exact⟨by rw[E.out.1,E.out.2.1,E.out.2.2];rfl,HB.out⟩
set_option maxHeartbeats 400000 in
theorem yf(W n i:Int)(w:World)(hp:fo W n i=0)(hn:n≤W-8):
  Calls Tryz.prog 177 #[.int .i64 W,.int .i64 n,.int .i64 i] w (ku W n i w):=by
 obtain⟨he,i0,i1⟩:=zn hp
 obtain⟨h0,h1,h2,h3⟩:=zA he
 obtain⟨e2,e3⟩:=uR hp hn
 have E:Hid (kT W n i= -1∧jQ W n i=8+i∧fo W n i=0):=hid ⟨e2,e3,hp⟩
 have A:Hid (sO W (-1)=0):=hid (GL h0 h1 (by decide))
 have HE:=hid he
 clear he e2 e3 hp
 go_enter Tryz.func177,Tryz.ntmps177
 go_wp2_with fail
 refine(iE _ _ _ _ (by simp)).mono ?_
 rw[HE.out,if_pos rfl]
 rintro e w1 ⟨rfl,hb⟩
 have HB:=hid hb
 clear hb
 go_wp2_with fail
 refine(qw _ _ _ h0 h1 hn).mono ?_
 rintro e w2 ⟨rfl,rfl⟩
 go_wp2_with fail
 refine(lu (uW _ _) (show tY (-1)=8 from rfl)).mono ?_
 rintro e w2 ⟨rfl,rfl⟩
 go_wp2_with fail
 refine(uV _ _ _ h0 h1).mono ?_
 rw[A.out]
 rintro e w2 ⟨rfl,hb⟩
 have HB2:=hid (below_step HB.out hb)
 clear hb
 go_wp2_with fail
 go_ret3
 exact⟨by rw[E.out.1,E.out.2.1,E.out.2.2];rfl,HB2.out⟩
set_option maxHeartbeats 400000 in
theorem CX(W n i:Int)(w:World)(hp:fo W n i=0)(hn:W-8<n):
  Calls Tryz.prog 177 #[.int .i64 W,.int .i64 n,.int .i64 i] w (ku W n i w):=by
 obtain⟨he,i0,i1⟩:=zn hp
 obtain⟨h0,h1,h2,h3⟩:=zA he
 obtain⟨e2,e3⟩:=zq hp hn
 have hf:=iU h0 h1
 obtain⟨p1,p2,p3,p4⟩:=Na (m:=W-1) (i:=i) (by omega) i0
 have hq:i/(W-1)≤248:=by
  by_cases h:i/(W-1)≤W-8
  ·omega
  ·have:=MJ (m:=W-1) (a:=W-8) (b:=i/(W-1)) (by omega) (by omega)
   have:(W-8)*(W-1)=aZ W:=rfl
   omega
 have hd:JP i (W-1)=i/(W-1):=by unfold JP Jj;rw[iK i0 (by omega),iK (by omega) (by omega),if_neg (by omega)]
 have A:=JA (l:=i/(W-1)) h0 h1 p4 (by omega)
 have st:tY (i/(W-1))=1:=by unfold tY;rw[if_neg (by omega)]
 have D:Hid (∀w',Calls Tryz.prog 211 #[.int .i64 i,.int .i64 (W-1)] w' fun e w''=>e=.returned (.int .i64 (i/(W-1)))∧w'=w''):=hid (fun w'=>lu (JQ _ _ _) hd)
 have S:Hid (∀w',Calls Tryz.prog 212 #[.int .i64 (i/(W-1))] w' fun e w''=>e=.returned (.int .i64 1)∧w'=w''):=hid (fun w'=>lu (uW _ _) st)
 have HA:Hid (∀w',Calls Tryz.prog 213 #[.int .i64 W,.int .i64 (i/(W-1))] w' fun e w''=>e=.returned (.int .i64 (i/(W-1)*(W-1)))∧Below w'.heap.size w' w''):=hid (fun w'=>by have:=uV W (i/(W-1)) w' h0 h1;rw[A] at this;exact this)
 have e4:jQ W n i=1+i-i/(W-1)*(W-1):=by rw[e3];omega
 have hb4:=zb p4 (show 0≤W-1 by omega) hq (show W-1≤255 by omega)
 have E:Hid (kT W n i=i/(W-1)∧jQ W n i=1+i-i/(W-1)*(W-1)∧fo W n i=0):=hid ⟨e2,e4,hp⟩
 have HE:=hid he
 clear he e2 e3 e4 hp A st hd p1 p2 p3
 generalize i/(W-1)*(W-1)=B at*
 generalize i/(W-1)=q at*
 go_enter Tryz.func177,Tryz.ntmps177
 go_wp2_with fail
 refine(iE _ _ _ _ (by simp)).mono ?_
 rw[HE.out,if_pos rfl]
 rintro e w1 ⟨rfl,hb⟩
 have HB:=hid hb
 clear hb
 go_wp2_with fail
 refine(si _ _ _ h0 h1 hn).mono ?_
 rintro e w2 ⟨rfl,rfl⟩
 go_wp2_with fail
 refine(jH _ _ h0 h1).mono ?_
 rintro e w2 ⟨rfl,rfl⟩
 go_wp2_with fail
 refine(D.out _).mono ?_
 rintro e w2 ⟨rfl,rfl⟩
 go_wp2_with fail
 refine(S.out _).mono ?_
 rintro e w2 ⟨rfl,rfl⟩
 go_wp2_with fail
 refine(HA.out _).mono ?_
 rintro e w2 ⟨rfl,hb⟩
 have HB2:=hid (below_step HB.out hb)
 clear hb
 go_wp2_with fail
 go_ret3
 exact⟨by rw[E.out.1,E.out.2.1,E.out.2.2];rfl,HB2.out⟩
theorem CW(W n i:Int)(w:World):
  Calls Tryz.prog 177 #[.int .i64 W,.int .i64 n,.int .i64 i] w (ku W n i w):=by
 by_cases he:fq W n=0
 ·by_cases hi:i<0∨n≤i
  ·exact Ap W n i w he hi
  ·have hp:=zm he (i:=i) (by omega) (by omega)
   by_cases hn:n≤W-8
   ·exact yf W n i w hp hn
   ·exact CX W n i w hp (by omega)
 ·exact yg W n i w he
end Go.Proofs.YtbfdimibehkbjaaGreat.Pk
