/-
  What the functions of package shape return.
-/
import Derived.Test.YtjmifnljckmimaaGreatShapeEtc
import Derived.OwnWalk
namespace Go.Proofs.YtjmifnljckmimaaGreat.Pk
open Lib (hid)
open Go.RowKit
set_option linter.unusedVariables false
set_option linter.unusedSimpArgs false
set_option maxHeartbeats 400000 in
theorem iG(W p d:Int)(w:World):
  Calls Tryz.prog 82 #[.int .i64 W,.int .i64 p,.int .i64 d] w fun e w'=>e=.returned (.tuple #[.int .i64 (bK W p d),.int .i64 (dI W p d)])∧Below w.heap.size w w':=by
 by_cases he:dI W p d=0
 ·have E:Hid (bK W p d=1+cO W (p+d)):=hid (by unfold bK;rw[if_pos he])
  obtain⟨h0,h1,h2,h3,h4⟩:=qU he
  have hf:=ic h0 h1
  have L:=lw h0 h1 h4
  have HL:Hid (∀w',Calls Tryz.prog 152 #[.int .i64 W,.int .i64 (p+d)] w' fun e w''=>e=.returned (.int .i64 (cO W (p+d)))∧w'=w''):=hid (fun w'=>wo W _ w' h0 h1 (by omega) h4)
  rw[he]
  have HE:=hid he
  clear he
  go_enter Tryz.func82,Tryz.ntmps82
  go_wp2_with fail
  refine(nz _ _ _ _ _ (by simp)).mono ?_
  rw[HE.out,if_pos rfl]
  rintro e w1 ⟨rfl,hb⟩
  have HB:=hid hb
  clear hb
  go_wp2_with fail
  refine(HL.out _).mono ?_
  rintro e w1 ⟨rfl,rfl⟩
  go_wp2_with fail
  go_ret2
  exact⟨by rw[E.out];rfl,HB.out⟩
 ·have E:Hid (bK W p d=0):=hid (by unfold bK;rw[if_neg he])
  have g:=uM he
  have HE:=hid he
  clear he
  go_enter Tryz.func82,Tryz.ntmps82
  go_wp2_with fail
  refine(nz _ _ _ _ _ (by simp)).mono ?_
  rw[if_neg HE.out]
  rintro e w1 ⟨rfl,hb⟩
  have HB:=hid hb
  clear hb
  go_wp2_with fail
  go_ret2
  exact⟨by rw[E.out];rfl,HB.out⟩
def jH(W n i:Int)(w:World)(e:Ending)(w':World):Prop:=
 e=.returned (.tuple #[.int .i64 (jZ W n i),.int .i64 (jr W n i),.int .i64 (dY W n i)])∧Below w.heap.size w w'
set_option maxHeartbeats 400000 in
theorem xL(W n i:Int)(w:World)(he:dZ W n≠0):
  Calls Tryz.prog 153 #[.int .i64 W,.int .i64 n,.int .i64 i] w (jH W n i w):=by
 have e1:dY W n i=dZ W n:=by unfold dY;rw[if_neg he]
 have e2:=tN (W:=W) (n:=n) (i:=i) (by rw[e1];exact he)
 have E:Hid (jZ W n i=0∧jr W n i=0∧dY W n i=dZ W n):=hid ⟨e2.1,e2.2,e1⟩
 clear e1 e2
 have g:=uM he
 have HE:=hid he
 clear he
 go_enter Tryz.func153,Tryz.ntmps153
 go_wp2_with fail
 refine(gT _ _ _ _ (by simp)).mono ?_
 rw[if_neg HE.out]
 rintro e w1 ⟨rfl,hb⟩
 have HB:=hid hb
 clear hb
 go_wp2_with fail
 go_ret3
 exact⟨by rw[E.out.1,E.out.2.1,E.out.2.2];rfl,HB.out⟩
set_option maxHeartbeats 400000 in
theorem Ar(W n i:Int)(w:World)(he:dZ W n=0)(hi:i<0∨n≤i):
  Calls Tryz.prog 153 #[.int .i64 W,.int .i64 n,.int .i64 i] w (jH W n i w):=by
 have e1:dY W n i=7:=by unfold dY;rw[if_pos he,if_pos hi]
 have e2:=tN (W:=W) (n:=n) (i:=i) (by rw[e1];decide)
 have E:Hid (jZ W n i=0∧jr W n i=0∧dY W n i=7):=hid ⟨e2.1,e2.2,e1⟩
 clear e1 e2
 have HE:=hid he
 clear he
 by_cases h:i<0
 all_goals
  go_enter Tryz.func153,Tryz.ntmps153
  go_wp2_with fail
  refine(gT _ _ _ _ (by simp)).mono ?_
  rw[HE.out,if_pos rfl]
  rintro e w1 ⟨rfl,hb⟩
  have HB:=hid hb
  clear hb
  have hi2:i<0∨n≤i:=hi
  go_wp2_with fail
  go_ret3
  exact⟨by rw[E.out.1,E.out.2.1,E.out.2.2];rfl,HB.out⟩
set_option maxHeartbeats 400000 in
theorem xK(W n i:Int)(w:World)(hp:dY W n i=0)(hn:n≤W-8):
  Calls Tryz.prog 153 #[.int .i64 W,.int .i64 n,.int .i64 i] w (jH W n i w):=by
 obtain⟨he,i0,i1⟩:=yT hp
 obtain⟨h0,h1,h2,h3⟩:=zm he
 obtain⟨e2,e3⟩:=tL hp hn
 have E:Hid (jZ W n i= -1∧jr W n i=8+i∧dY W n i=0):=hid ⟨e2,e3,hp⟩
 have A:Hid (rD W (-1)=0):=hid (GU h0 h1 (by decide))
 have HE:=hid he
 clear he e2 e3 hp
 go_enter Tryz.func153,Tryz.ntmps153
 go_wp2_with fail
 refine(gT _ _ _ _ (by simp)).mono ?_
 rw[HE.out,if_pos rfl]
 rintro e w1 ⟨rfl,hb⟩
 have HB:=hid hb
 clear hb
 go_wp2_with fail
 refine(pK _ _ _ h0 h1 hn).mono ?_
 rintro e w2 ⟨rfl,rfl⟩
 go_wp2_with fail
 refine(ky (tV _ _) (show sF (-1)=8 from rfl)).mono ?_
 rintro e w2 ⟨rfl,rfl⟩
 go_wp2_with fail
 refine(tT _ _ _ h0 h1).mono ?_
 rw[A.out]
 rintro e w2 ⟨rfl,hb⟩
 have HB2:=hid (below_step HB.out hb)
 clear hb
 go_wp2_with fail
 go_ret3
 exact⟨by rw[E.out.1,E.out.2.1,E.out.2.2];rfl,HB2.out⟩
set_option maxHeartbeats 400000 in
theorem Dp(W n i:Int)(w:World)(hp:dY W n i=0)(hn:W-8<n):
  Calls Tryz.prog 153 #[.int .i64 W,.int .i64 n,.int .i64 i] w (jH W n i w):=by
 obtain⟨he,i0,i1⟩:=yT hp
 obtain⟨h0,h1,h2,h3⟩:=zm he
 obtain⟨e2,e3⟩:=yU hp hn
 have hf:=ic h0 h1
 obtain⟨p1,p2,p3,p4⟩:=Nl (m:=W-1) (i:=i) (by omega) i0
 have hq:i/(W-1)≤248:=by
  by_cases h:i/(W-1)≤W-8
  ·omega
  ·have:=MR (m:=W-1) (a:=W-8) (b:=i/(W-1)) (by omega) (by omega)
   have:(W-8)*(W-1)=fieldsI W:=rfl
   omega
 have hd:JP i (W-1)=i/(W-1):=by unfold JP Jm;rw[gX i0 (by omega),gX (by omega) (by omega),if_neg (by omega)]
 have A:=JE (l:=i/(W-1)) h0 h1 p4 (by omega)
 have st:sF (i/(W-1))=1:=by unfold sF;rw[if_neg (by omega)]
 have D:Hid (∀w',Calls Tryz.prog 194 #[.int .i64 i,.int .i64 (W-1)] w' fun e w''=>e=.returned (.int .i64 (i/(W-1)))∧w'=w''):=hid (fun w'=>ky (JQ _ _ _) hd)
 have S:Hid (∀w',Calls Tryz.prog 195 #[.int .i64 (i/(W-1))] w' fun e w''=>e=.returned (.int .i64 1)∧w'=w''):=hid (fun w'=>ky (tV _ _) st)
 have HA:Hid (∀w',Calls Tryz.prog 196 #[.int .i64 W,.int .i64 (i/(W-1))] w' fun e w''=>e=.returned (.int .i64 (i/(W-1)*(W-1)))∧Below w'.heap.size w' w''):=hid (fun w'=>by have:=tT W (i/(W-1)) w' h0 h1;rw[A] at this;exact this)
 have e4:jr W n i=1+i-i/(W-1)*(W-1):=by rw[e3];omega
 have hb4:=yL p4 (show 0≤W-1 by omega) hq (show W-1≤255 by omega)
 have E:Hid (jZ W n i=i/(W-1)∧jr W n i=1+i-i/(W-1)*(W-1)∧dY W n i=0):=hid ⟨e2,e4,hp⟩
 have HE:=hid he
 clear he e2 e3 e4 hp A st hd p1 p2 p3
 generalize i/(W-1)*(W-1)=B at*
 generalize i/(W-1)=q at*
 go_enter Tryz.func153,Tryz.ntmps153
 go_wp2_with fail
 refine(gT _ _ _ _ (by simp)).mono ?_
 rw[HE.out,if_pos rfl]
 rintro e w1 ⟨rfl,hb⟩
 have HB:=hid hb
 clear hb
 go_wp2_with fail
 refine(qR _ _ _ h0 h1 hn).mono ?_
 rintro e w2 ⟨rfl,rfl⟩
 go_wp2_with fail
 refine(jb _ _ h0 h1).mono ?_
 rintro e w2 ⟨rfl,rfl⟩
 go_wp2_with fail
 refine(D.out _).mono ?_
 rintro e w2 ⟨rfl,rfl⟩
 go_wp2_with fail
 refine(S.out _).mono ?_
 rintro e w2 ⟨rfl,rfl⟩
 go_wp2_with fail
 refine(HA.out _).mono ?_
 rintro e w2 ⟨rfl,hb⟩
 have HB2:=hid (below_step HB.out hb)
 clear hb
 go_wp2_with fail
 go_ret3
 exact⟨by rw[E.out.1,E.out.2.1,E.out.2.2];rfl,HB2.out⟩
theorem Dn(W n i:Int)(w:World):
  Calls Tryz.prog 153 #[.int .i64 W,.int .i64 n,.int .i64 i] w (jH W n i w):=by
 by_cases he:dZ W n=0
 ·by_cases hi:i<0∨n≤i
  ·exact Ar W n i w he hi
  ·have hp:=yS he (i:=i) (by omega) (by omega)
   by_cases hn:n≤W-8
   ·exact xK W n i w hp hn
   ·exact Dp W n i w hp (by omega)
 ·exact xL W n i w he
end Go.Proofs.YtjmifnljckmimaaGreat.Pk
