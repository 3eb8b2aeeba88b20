/-
  What the functions of package shape return.
-/
import Derived.Test.YtjmifnljckmimaaGreatShapeEtc
import Derived.OwnWalk
namespace Go.Proofs.YtjmifnljckmimaaGreat.Pk
open Lib (hid)
open Go.RowKit
set_option linter.unusedVariables false
set_option linter.unusedSimpArgs false
set_option maxHeartbeats 400000 in
theorem iM(W p d:Int)(w:World):
  Calls Tryz.prog 82 #[.int .i64 W,.int .i64 p,.int .i64 d] w fun e w'=>e=.returned (.tuple #[.int .i64 (bL W p d),.int .i64 (dM W p d)])∧Below w.heap.size w w':=by
 by_cases he:dM W p d=0
 ·have E:Hid (bL W p d=1+cB W (p+d)):=hid (by unfold bL;rw[if_pos he])
  obtain⟨h0,h1,h2,h3,h4⟩:=rq he
  have hf:=iq h0 h1
  have L:=lg h0 h1 h4
  have HL:Hid (∀w',Calls Tryz.prog 152 #[.int .i64 W,.int .i64 (p+d)] w' fun e w''=>e=.returned (.int .i64 (cB W (p+d)))∧w'=w''):=hid (fun w'=>wF W _ w' h0 h1 (by omega) h4)
  rw[he]
  have HE:=hid he
  clear he
  go_enter Tryz.func82,Tryz.ntmps82
  go_wp2_with fail
  refine(mY _ _ _ _ _ (by simp)).mono ?_
  rw[HE.out,if_pos rfl]
  rintro e w1 ⟨rfl,hb⟩
  have HB:=hid hb
  clear hb
  go_wp2_with fail
  refine(HL.out _).mono ?_
  rintro e w1 ⟨rfl,rfl⟩
  go_wp2_with fail
  go_ret2
  exact⟨by rw[E.out];rfl,HB.out⟩
 ·have E:Hid (bL W p d=0):=hid (by unfold bL;rw[if_neg he])
  have g:=uW he
  have HE:=hid he
  clear he
  go_enter Tryz.func82,Tryz.ntmps82
  go_wp2_with fail
  refine(mY _ _ _ _ _ (by simp)).mono ?_
  rw[if_neg HE.out]
  rintro e w1 ⟨rfl,hb⟩
  have HB:=hid hb
  clear hb
  go_wp2_with fail
  go_ret2
  exact⟨by rw[E.out];rfl,HB.out⟩
def jF(W n i:Int)(w:World)(e:Ending)(w':World):Prop:=
 e=.returned (.tuple #[.int .i64 (kg W n i),.int .i64 (jq W n i),.int .i64 (eF W n i)])∧Below w.heap.size w w'
set_option maxHeartbeats 400000 in
theorem xQ(W n i:Int)(w:World)(he:eG W n≠0):
  Calls Tryz.prog 153 #[.int .i64 W,.int .i64 n,.int .i64 i] w (jF W n i w):=by
 have e1:eF W n i=eG W n:=by unfold eF;rw[if_neg he]
 have e2:=tT (W:=W) (n:=n) (i:=i) (by rw[e1];exact he)
 have E:Hid (kg W n i=0∧jq W n i=0∧eF W n i=eG W n):=hid ⟨e2.1,e2.2,e1⟩
 clear e1 e2
 have g:=uW he
 have HE:=hid he
 clear he
 go_enter Tryz.func153,Tryz.ntmps153
 go_wp2_with fail
 refine(gV _ _ _ _ (by simp)).mono ?_
 rw[if_neg HE.out]
 rintro e w1 ⟨rfl,hb⟩
 have HB:=hid hb
 clear hb
 go_wp2_with fail
 go_ret3
 exact⟨by rw[E.out.1,E.out.2.1,E.out.2.2];rfl,HB.out⟩
set_option maxHeartbeats 400000 in
theorem AO(W n i:Int)(w:World)(he:eG W n=0)(hi:i<0∨n≤i):
  Calls Tryz.prog 153 #[.int .i64 W,.int .i64 n,.int .i64 i] w (jF W n i w):=by
 have e1:eF W n i=7:=by unfold eF;rw[if_pos he,if_pos hi]
 have e2:=tT (W:=W) (n:=n) (i:=i) (by rw[e1];decide)
 have E:Hid (kg W n i=0∧jq W n i=0∧eF W n i=7):=hid ⟨e2.1,e2.2,e1⟩
 clear e1 e2
 have HE:=hid he
 clear he
 by_cases h:i<0
 all_goals
  go_enter Tryz.func153,Tryz.ntmps153
  go_wp2_with fail
  refine(gV _ _ _ _ (by simp)).mono ?_
  rw[HE.out,if_pos rfl]
  rintro e w1 ⟨rfl,hb⟩
  have HB:=hid hb
  clear hb
  have hi2:i<0∨n≤i:=hi
  go_wp2_with fail
  go_ret3
  exact⟨by rw[E.out.1,E.out.2.1,E.out.2.2];rfl,HB.out⟩
set_option maxHeartbeats 400000 in
theorem xP(W n i:Int)(w:World)(hp:eF W n i=0)(hn:n≤W-8):
  Calls Tryz.prog 153 #[.int .i64 W,.int .i64 n,.int .i64 i] w (jF W n i w):=by
 obtain⟨he,i0,i1⟩:=zb hp
 obtain⟨h0,h1,h2,h3⟩:=zy he
 obtain⟨e2,e3⟩:=tQ hp hn
 have E:Hid (kg W n i= -1∧jq W n i=8+i∧eF W n i=0):=hid ⟨e2,e3,hp⟩
 have A:Hid (rH W (-1)=0):=hid (Ig h0 h1 (by decide))
 have HE:=hid he
 clear he e2 e3 hp
 go_enter Tryz.func153,Tryz.ntmps153
 go_wp2_with fail
 refine(gV _ _ _ _ (by simp)).mono ?_
 rw[HE.out,if_pos rfl]
 rintro e w1 ⟨rfl,hb⟩
 have HB:=hid hb
 clear hb
 go_wp2_with fail
 refine(pM _ _ _ h0 h1 hn).mono ?_
 rintro e w2 ⟨rfl,rfl⟩
 go_wp2_with fail
 refine(ky (ug _ _) (show sJ (-1)=8 from rfl)).mono ?_
 rintro e w2 ⟨rfl,rfl⟩
 go_wp2_with fail
 refine(uf _ _ _ h0 h1).mono ?_
 rw[A.out]
 rintro e w2 ⟨rfl,hb⟩
 have HB2:=hid (below_step HB.out hb)
 clear hb
 go_wp2_with fail
 go_ret3
 exact⟨by rw[E.out.1,E.out.2.1,E.out.2.2];rfl,HB2.out⟩
set_option maxHeartbeats 400000 in
theorem DF(W n i:Int)(w:World)(hp:eF W n i=0)(hn:W-8<n):
  Calls Tryz.prog 153 #[.int .i64 W,.int .i64 n,.int .i64 i] w (jF W n i w):=by
 obtain⟨he,i0,i1⟩:=zb hp
 obtain⟨h0,h1,h2,h3⟩:=zy he
 obtain⟨e2,e3⟩:=ze hp hn
 have hf:=iq h0 h1
 obtain⟨p1,p2,p3,p4⟩:=NE (m:=W-1) (i:=i) (by omega) i0
 have hq:i/(W-1)≤248:=by
  by_cases h:i/(W-1)≤W-8
  ·omega
  ·have:=Nl (m:=W-1) (a:=W-8) (b:=i/(W-1)) (by omega) (by omega)
   have:(W-8)*(W-1)=fieldsI W:=rfl
   omega
 have hd:Kk i (W-1)=i/(W-1):=by unfold Kk JC;rw[ib i0 (by omega),ib (by omega) (by omega),if_neg (by omega)]
 have A:=JV (l:=i/(W-1)) h0 h1 p4 (by omega)
 have st:sJ (i/(W-1))=1:=by unfold sJ;rw[if_neg (by omega)]
 have D:Hid (∀w',Calls Tryz.prog 194 #[.int .i64 i,.int .i64 (W-1)] w' fun e w''=>e=.returned (.int .i64 (i/(W-1)))∧w'=w''):=hid (fun w'=>ky (Kl _ _ _) hd)
 have S:Hid (∀w',Calls Tryz.prog 195 #[.int .i64 (i/(W-1))] w' fun e w''=>e=.returned (.int .i64 1)∧w'=w''):=hid (fun w'=>ky (ug _ _) st)
 have HA:Hid (∀w',Calls Tryz.prog 196 #[.int .i64 W,.int .i64 (i/(W-1))] w' fun e w''=>e=.returned (.int .i64 (i/(W-1)*(W-1)))∧Below w'.heap.size w' w''):=hid (fun w'=>by have:=uf W (i/(W-1)) w' h0 h1;rw[A] at this;exact this)
 have e4:jq W n i=1+i-i/(W-1)*(W-1):=by rw[e3];omega
 have hb4:=yP p4 (show 0≤W-1 by omega) hq (show W-1≤255 by omega)
 have E:Hid (kg W n i=i/(W-1)∧jq W n i=1+i-i/(W-1)*(W-1)∧eF W n i=0):=hid ⟨e2,e4,hp⟩
 have HE:=hid he
 clear he e2 e3 e4 hp A st hd p1 p2 p3
 generalize i/(W-1)*(W-1)=B at*
 generalize i/(W-1)=q at*
 go_enter Tryz.func153,Tryz.ntmps153
 go_wp2_with fail
 refine(gV _ _ _ _ (by simp)).mono ?_
 rw[HE.out,if_pos rfl]
 rintro e w1 ⟨rfl,hb⟩
 have HB:=hid hb
 clear hb
 go_wp2_with fail
 refine(qZ _ _ _ h0 h1 hn).mono ?_
 rintro e w2 ⟨rfl,rfl⟩
 go_wp2_with fail
 refine(jg _ _ h0 h1).mono ?_
 rintro e w2 ⟨rfl,rfl⟩
 go_wp2_with fail
 refine(D.out _).mono ?_
 rintro e w2 ⟨rfl,rfl⟩
 go_wp2_with fail
 refine(S.out _).mono ?_
 rintro e w2 ⟨rfl,rfl⟩
 go_wp2_with fail
 refine(HA.out _).mono ?_
 rintro e w2 ⟨rfl,hb⟩
 have HB2:=hid (below_step HB.out hb)
 clear hb
 go_wp2_with fail
 go_ret3
 exact⟨by rw[E.out.1,E.out.2.1,E.out.2.2];rfl,HB2.out⟩
theorem DD(W n i:Int)(w:World):
  Calls Tryz.prog 153 #[.int .i64 W,.int .i64 n,.int .i64 i] w (jF W n i w):=by
 by_cases he:eG W n=0
 ·by_cases hi:i<0∨n≤i
  ·exact AO W n i w he hi
  ·have hp:=za he (i:=i) (by omega) (by omega)
   by_cases hn:n≤W-8
   ·exact xP W n i w hp hn
   ·exact DF W n i w hp (by omega)
 ·exact xQ W n i w he
end Go.Proofs.YtjmifnljckmimaaGreat.Pk
