/-
  What the functions of package shape return.
-/
import Derived.Test.YtofhdfjkhfkhiaaGreatShapeEtc
import Derived.OwnWalk
namespace Go.Proofs.YtofhdfjkhfkhiaaGreat.Pk
open Lib (hid)
open Go.RowKit
set_option linter.unusedVariables false
set_option linter.unusedSimpArgs false
set_option maxHeartbeats 400000 in
theorem iD(W p d:Int)(w:World):
  Calls Tryz.prog 110 #[.int .i64 W,.int .i64 p,.int .i64 d] w fun e w'=>e=.returned (.tuple #[.int .i64 (aM W p d),.int .i64 (aW W p d)])∧Below w.heap.size w w':=by
 by_cases he:aW W p d=0
 ·have E:Hid (aM W p d=1+aR W (p+d)):=hid (by unfold aM;rw[if_pos he])
  obtain⟨h0,h1,h2,h3,h4⟩:=qZ he
  have hf:=dh h0 h1
  have L:=jN h0 h1 h4
  have HL:Hid (∀w',Calls Tryz.prog 170 #[.int .i64 W,.int .i64 (p+d)] w' fun e w''=>e=.returned (.int .i64 (aR W (p+d)))∧w'=w''):=hid (fun w'=>wI W _ w' h0 h1 (by omega) h4)
  rw[he]
  have HE:=hid he
  clear he
  go_enter Tryz.func110,Tryz.ntmps110
  go_wp2_with fail
  refine(ny _ _ _ _ _ (by simp)).mono ?_
  rw[HE.out,if_pos rfl]
  rintro e w1 ⟨rfl,hb⟩
  have HB:=hid hb
  clear hb
  go_wp2_with fail
  refine(HL.out _).mono ?_
  rintro e w1 ⟨rfl,rfl⟩
  go_wp2_with fail
  go_ret2
  exact⟨by rw[E.out];rfl,HB.out⟩
 ·have E:Hid (aM W p d=0):=hid (by unfold aM;rw[if_neg he])
  have g:=nH he
  have HE:=hid he
  clear he
  go_enter Tryz.func110,Tryz.ntmps110
  go_wp2_with fail
  refine(ny _ _ _ _ _ (by simp)).mono ?_
  rw[if_neg HE.out]
  rintro e w1 ⟨rfl,hb⟩
  have HB:=hid hb
  clear hb
  go_wp2_with fail
  go_ret2
  exact⟨by rw[E.out];rfl,HB.out⟩
def jK(W n i:Int)(w:World)(e:Ending)(w':World):Prop:=
 e=.returned (.tuple #[.int .i64 (gu W n i),.int .i64 (eU W n i),.int .i64 (bI W n i)])∧Below w.heap.size w w'
set_option maxHeartbeats 400000 in
theorem xN(W n i:Int)(w:World)(he:bC W n≠0):
  Calls Tryz.prog 171 #[.int .i64 W,.int .i64 n,.int .i64 i] w (jK W n i w):=by
 have e1:bI W n i=bC W n:=by unfold bI;rw[if_neg he]
 have e2:=kQ (W:=W) (n:=n) (i:=i) (by rw[e1];exact he)
 have E:Hid (gu W n i=0∧eU W n i=0∧bI W n i=bC W n):=hid ⟨e2.1,e2.2,e1⟩
 clear e1 e2
 have g:=nH he
 have HE:=hid he
 clear he
 go_enter Tryz.func171,Tryz.ntmps171
 go_wp2_with fail
 refine(gH _ _ _ _ (by simp)).mono ?_
 rw[if_neg HE.out]
 rintro e w1 ⟨rfl,hb⟩
 have HB:=hid hb
 clear hb
 go_wp2_with fail
 go_ret3
 exact⟨by rw[E.out.1,E.out.2.1,E.out.2.2];rfl,HB.out⟩
set_option maxHeartbeats 400000 in
theorem AB(W n i:Int)(w:World)(he:bC W n=0)(hi:i<0∨n≤i):
  Calls Tryz.prog 171 #[.int .i64 W,.int .i64 n,.int .i64 i] w (jK W n i w):=by
 have e1:bI W n i=7:=by unfold bI;rw[if_pos he,if_pos hi]
 have e2:=kQ (W:=W) (n:=n) (i:=i) (by rw[e1];decide)
 have E:Hid (gu W n i=0∧eU W n i=0∧bI W n i=7):=hid ⟨e2.1,e2.2,e1⟩
 clear e1 e2
 have HE:=hid he
 clear he
 by_cases h:i<0
 all_goals
  go_enter Tryz.func171,Tryz.ntmps171
  go_wp2_with fail
  refine(gH _ _ _ _ (by simp)).mono ?_
  rw[HE.out,if_pos rfl]
  rintro e w1 ⟨rfl,hb⟩
  have HB:=hid hb
  clear hb
  have hi2:i<0∨n≤i:=hi
  go_wp2_with fail
  go_ret3
  exact⟨by rw[E.out.1,E.out.2.1,E.out.2.2];rfl,HB.out⟩
set_option maxHeartbeats 400000 in
theorem xM(W n i:Int)(w:World)(hp:bI W n i=0)(hn:n≤W-8):
  Calls Tryz.prog 171 #[.int .i64 W,.int .i64 n,.int .i64 i] w (jK W n i w):=by
 obtain⟨he,i0,i1⟩:=oL hp
 obtain⟨h0,h1,h2,h3⟩:=oQ he
 obtain⟨e2,e3⟩:=kP hp hn
 have E:Hid (gu W n i= -1∧eU W n i=8+i∧bI W n i=0):=hid ⟨e2,e3,hp⟩
 have A:Hid (rF W (-1)=0):=hid (IZ h0 h1 (by decide))
 have HE:=hid he
 clear he e2 e3 hp
 go_enter Tryz.func171,Tryz.ntmps171
 go_wp2_with fail
 refine(gH _ _ _ _ (by simp)).mono ?_
 rw[HE.out,if_pos rfl]
 rintro e w1 ⟨rfl,hb⟩
 have HB:=hid hb
 clear hb
 go_wp2_with fail
 refine(pQ _ _ _ h0 h1 hn).mono ?_
 rintro e w2 ⟨rfl,rfl⟩
 go_wp2_with fail
 refine(kE (tZ _ _) (show sI (-1)=8 from rfl)).mono ?_
 rintro e w2 ⟨rfl,rfl⟩
 go_wp2_with fail
 refine(tY _ _ _ h0 h1).mono ?_
 rw[A.out]
 rintro e w2 ⟨rfl,hb⟩
 have HB2:=hid (below_step HB.out hb)
 clear hb
 go_wp2_with fail
 go_ret3
 exact⟨by rw[E.out.1,E.out.2.1,E.out.2.2];rfl,HB2.out⟩
set_option maxHeartbeats 400000 in
theorem DY(W n i:Int)(w:World)(hp:bI W n i=0)(hn:W-8<n):
  Calls Tryz.prog 171 #[.int .i64 W,.int .i64 n,.int .i64 i] w (jK W n i w):=by
 obtain⟨he,i0,i1⟩:=oL hp
 obtain⟨h0,h1,h2,h3⟩:=oQ he
 obtain⟨e2,e3⟩:=oM hp hn
 have hf:=dh h0 h1
 obtain⟨p1,p2,p3,p4⟩:=Iz (m:=W-1) (i:=i) (by omega) i0
 have hq:i/(W-1)≤248:=by
  by_cases h:i/(W-1)≤W-8
  ·omega
  ·have:=Im (m:=W-1) (a:=W-8) (b:=i/(W-1)) (by omega) (by omega)
   have:(W-8)*(W-1)=ay W:=rfl
   omega
 have hd:Lj i (W-1)=i/(W-1):=by unfold Lj KI;rw[gL i0 (by omega),gL (by omega) (by omega),if_neg (by omega)]
 have A:=La (l:=i/(W-1)) h0 h1 p4 (by omega)
 have st:sI (i/(W-1))=1:=by unfold sI;rw[if_neg (by omega)]
 have D:Hid (∀w',Calls Tryz.prog 209 #[.int .i64 i,.int .i64 (W-1)] w' fun e w''=>e=.returned (.int .i64 (i/(W-1)))∧w'=w''):=hid (fun w'=>kE (Ll _ _ _) hd)
 have S:Hid (∀w',Calls Tryz.prog 210 #[.int .i64 (i/(W-1))] w' fun e w''=>e=.returned (.int .i64 1)∧w'=w''):=hid (fun w'=>kE (tZ _ _) st)
 have HA:Hid (∀w',Calls Tryz.prog 211 #[.int .i64 W,.int .i64 (i/(W-1))] w' fun e w''=>e=.returned (.int .i64 (i/(W-1)*(W-1)))∧Below w'.heap.size w' w''):=hid (fun w'=>by have:=tY W (i/(W-1)) w' h0 h1;rw[A] at this;exact this)
 have e4:eU W n i=1+i-i/(W-1)*(W-1):=by rw[e3];omega
 have hb4:=za p4 (show 0≤W-1 by omega) hq (show W-1≤255 by omega)
 have E:Hid (gu W n i=i/(W-1)∧eU W n i=1+i-i/(W-1)*(W-1)∧bI W n i=0):=hid ⟨e2,e4,hp⟩
 have HE:=hid he
 clear he e2 e3 e4 hp A st hd p1 p2 p3
 generalize i/(W-1)*(W-1)=B at*
 generalize i/(W-1)=q at*
 go_enter Tryz.func171,Tryz.ntmps171
 go_wp2_with fail
 refine(gH _ _ _ _ (by simp)).mono ?_
 rw[HE.out,if_pos rfl]
 rintro e w1 ⟨rfl,hb⟩
 have HB:=hid hb
 clear hb
 go_wp2_with fail
 refine(qY _ _ _ h0 h1 hn).mono ?_
 rintro e w2 ⟨rfl,rfl⟩
 go_wp2_with fail
 refine(jb _ _ h0 h1).mono ?_
 rintro e w2 ⟨rfl,rfl⟩
 go_wp2_with fail
 refine(D.out _).mono ?_
 rintro e w2 ⟨rfl,rfl⟩
 go_wp2_with fail
 refine(S.out _).mono ?_
 rintro e w2 ⟨rfl,rfl⟩
 go_wp2_with fail
 refine(HA.out _).mono ?_
 rintro e w2 ⟨rfl,hb⟩
 have HB2:=hid (below_step HB.out hb)
 clear hb
 go_wp2_with fail
 go_ret3
 exact⟨by rw[E.out.1,E.out.2.1,E.out.2.2];rfl,HB2.out⟩
theorem DX(W n i:Int)(w:World):
  Calls Tryz.prog 171 #[.int .i64 W,.int .i64 n,.int .i64 i] w (jK W n i w):=by
 by_cases he:bC W n=0
 ·by_cases hi:i<0∨n≤i
  ·exact AB W n i w he hi
  ·have hp:=oK he (i:=i) (by omega) (by omega)
   by_cases hn:n≤W-8
   ·exact xM W n i w hp hn
   ·exact DY W n i w hp (by omega)
 ·exact xN W n i w he
end Go.Proofs.YtofhdfjkhfkhiaaGreat.Pk
