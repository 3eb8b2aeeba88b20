/-
  What the document's functions of layer 7 return.
-/
import Derived.Test.YtofhdfjkhfkhiaaGreatProg
import Derived.Test.YtofhdfjkhfkhiaaGreatBaseEtc
import Derived.Test.YtofhdfjkhfkhiaaGreatPlanFnEtc
import Derived.IntWalk
import Derived.OwnWalk
namespace Go.Proofs.YtofhdfjkhfkhiaaGreat.Pk
open Lib (hid)
open Go.RowKit
set_option linter.unusedVariables false
set_option linter.unusedSimpArgs false
set_option maxHeartbeats 400000 in
theorem gW(W:Int)(w:World):
  Calls Tryz.prog 228 #[.int .i64 W] w fun e w'=>e=.returned (.bool (uw W))∧w=w':=by
 by_cases h0:16≤W
 ·by_cases h1:W≤256
  ·have E:=hid (rC h0 h1)
   go_enter Tryz.func228,Tryz.ntmps228
   go_wp2
   go_ret
   exact⟨ax E.out.symm,rfl⟩
  ·have E:=hid (rD (W:=W) (by omega))
   go_enter Tryz.func228,Tryz.ntmps228
   go_wp2
   go_ret
   exact⟨ax E.out.symm,rfl⟩
 ·have E:=hid (rD (W:=W) (by omega))
  go_enter Tryz.func228,Tryz.ntmps228
  go_wp2
  go_ret
  exact⟨ax E.out.symm,rfl⟩
set_option maxHeartbeats 400000 in
theorem qV(W:Int)(w:World)(h0:16≤W)(h1:W≤256):
  Calls Tryz.prog 231 #[.int .i64 W] w fun e w'=>e=.returned (.int .i64 (ay W))∧w=w':=by
 have hf:120≤(W-8)*(W-1)∧(W-8)*(W-1)≤63240:=dh h0 h1
 go_enter Tryz.func231,Tryz.ntmps231
 go_wp2
 go_ret
 exact⟨rfl,rfl⟩
set_option maxHeartbeats 400000 in
theorem mH(W n:Int)(w:World)(h0:16≤W)(h1:W≤256)(h3:n≤ay W)(hm: -9223372036854775808≤n):
  Calls Tryz.prog 219 #[.int .i64 W,.int .i64 n] w fun e w'=>e=.returned (.int .i64 (aR W n))∧w=w':=by
 have hf:=dh h0 h1
 by_cases h:n≤W-8
 ·have E:=hid (fQ h)
  go_enter Tryz.func219,Tryz.ntmps219
  go_wp2
  go_ret
  exact⟨bi E.out.symm,rfl⟩
 ·have L:=iR h0 h1 (by omega) h3
  have HL:Hid (∀k:Int,0≤k→k≤aR W n→(k<aR W n↔k*(W-1)<n)∧0≤k*(W-1)∧k*(W-1)≤70000):=hid (fun k k0 k1=>by
   have h4:=Int.mul_nonneg k0 (show 0≤W-1 by omega)
   have h5:=OY (m:=W-1) (by omega) k1
   refine⟨⟨fun hk=> ?_,fun hk=> ?_⟩,h4,by omega⟩
   ·have:=Im (m:=W-1) (by omega) hk
    omega
   ·by_cases e:k<aR W n
    ·exact e
    ·have:k=aR W n:=by omega
     subst this;omega)
  have g1:aR W n≤W-8:=L.2.1
  have g2:1≤aR W n:=L.1
  clear L
  generalize hq:aR W n=q at*
  clear hq
  go_enter Tryz.func219,Tryz.ntmps219
  go_wp2
  go_loop [5] (fun i=>∃k:Int,0≤k∧k≤q∧i=.int .i64 k) (fun i=>(q-intOf i).toNat)
  case atStart=>exact⟨0,Int.le_refl _,by omega,rfl⟩
  case round=>
   obtain⟨k,k0,k1,rfl⟩:=hrel
   obtain⟨c1,c2,c3⟩:=HL.out k k0 k1
   by_cases hk:k<q
   ·have hk2:=c1.1 hk
    clear c1
    go_wp2
    go_round
    case rel=>exact⟨k+1,by omega,by omega,rfl⟩
    case measure=>simp[intOf];omega
   ·have hk2:¬k*(W-1)<n:=fun h=>hk (c1.2 h)
    have e:k=q:=by omega
    have HE:=hid e
    clear c1 e
    go_wp2
    go_ret
    exact⟨bi HE.out,rfl⟩
set_option maxHeartbeats 400000 in
theorem wF(W p d:Int)(w:World)(h0:16≤W)(h1:W≤256)(h2:0≤p)(h3:0≤d)(h4:p+d≤ay W):
  Calls Tryz.prog 229 #[.int .i64 W,.int .i64 p,.int .i64 d] w fun e w'=>e=.returned (.bool true)∧w=w':=by
 have hf:=dh h0 h1
 have g1:p≤ay W:=by omega
 have g2:d≤ay W:=by omega
 have HF:Hid (∀w',Calls Tryz.prog 231 #[.int .i64 W] w' fun e w''=>e=.returned (.int .i64 (ay W))∧w'=w''):=hid (fun w'=>qV W w' h0 h1)
 go_enter Tryz.func229,Tryz.ntmps229
 go_wp2_with fail
 refine(HF.out _).mono ?_
 rintro e w1 ⟨rfl,rfl⟩
 go_wp2_with fail
 refine(HF.out _).mono ?_
 rintro e w1 ⟨rfl,rfl⟩
 go_wp2_with fail
 refine(HF.out _).mono ?_
 rintro e w1 ⟨rfl,rfl⟩
 go_wp2_with fail
 go_ret
 exact⟨ax (by first|rfl|(simp;done)|(simp;omega)),rfl⟩
set_option maxHeartbeats 400000 in
theorem zn(W p d:Int)(w:World)(h0:16≤W)(h1:W≤256)(h:p<0∨d<0∨ay W<p+d):
  Calls Tryz.prog 229 #[.int .i64 W,.int .i64 p,.int .i64 d] w fun e w'=>e=.returned (.bool false)∧w=w':=by
 have hf:=dh h0 h1
 have HF:Hid (∀w',Calls Tryz.prog 231 #[.int .i64 W] w' fun e w''=>e=.returned (.int .i64 (ay W))∧w'=w''):=hid (fun w'=>qV W w' h0 h1)
 by_cases hp:p<0
 ·go_enter Tryz.func229,Tryz.ntmps229
  go_wp2_with fail
  go_ret
  exact⟨rfl,rfl⟩
 ·by_cases hd:d<0
  ·go_enter Tryz.func229,Tryz.ntmps229
   go_wp2_with fail
   go_ret
   exact⟨rfl,rfl⟩
  ·by_cases hp2:ay W<p
   ·go_enter Tryz.func229,Tryz.ntmps229
    go_wp2_with fail
    refine(HF.out _).mono ?_
    rintro e w1 ⟨rfl,rfl⟩
    go_wp2_with fail
    go_ret
    exact⟨rfl,rfl⟩
   ·by_cases hd2:ay W<d
    ·go_enter Tryz.func229,Tryz.ntmps229
     go_wp2_with fail
     refine(HF.out _).mono ?_
     rintro e w1 ⟨rfl,rfl⟩
     go_wp2_with fail
     refine(HF.out _).mono ?_
     rintro e w1 ⟨rfl,rfl⟩
     go_wp2_with fail
     go_ret
     exact⟨rfl,rfl⟩
    ·have hs:ay W<p+d:=by omega
     go_enter Tryz.func229,Tryz.ntmps229
     go_wp2_with fail
     refine(HF.out _).mono ?_
     rintro e w1 ⟨rfl,rfl⟩
     go_wp2_with fail
     refine(HF.out _).mono ?_
     rintro e w1 ⟨rfl,rfl⟩
     go_wp2_with fail
     refine(HF.out _).mono ?_
     rintro e w1 ⟨rfl,rfl⟩
     go_wp2_with fail
     go_ret
     exact⟨ax (by first|rfl|(simp;done)|(simp;omega)),rfl⟩
set_option maxHeartbeats 400000 in
theorem kS(W n:Int)(w:World):
  Calls Tryz.prog 218 #[.int .i64 W,.int .i64 n] w fun e w'=>e=.returned (.int .i64 (bC W n))∧w=w':=by
 cases hw:uw W with
 |false=>
  have E:Hid (bC W n=1):=hid (by unfold bC;rw[hw];rfl)
  have HW:=hid hw
  clear hw
  go_enter Tryz.func218,Tryz.ntmps218
  go_wp2_with fail
  refine(gW _ _).mono ?_
  rw[HW.out]
  rintro e w1 ⟨rfl,rfl⟩
  go_wp2_with fail
  go_ret
  exact⟨bi E.out.symm,rfl⟩
 |true=>
  obtain⟨h0,h1⟩:=lN hw
  by_cases h:n<0∨ay W<n
  ·have E:Hid (bC W n=3):=hid (by unfold bC;rw[if_pos hw,if_pos h])
   have HS:=hid (show n<0∨(0:Int)<0∨ay W<n+0 by omega)
   have HW:=hid hw
   clear hw h
   go_enter Tryz.func218,Tryz.ntmps218
   go_wp2_with fail
   refine(gW _ _).mono ?_
   rw[HW.out]
   rintro e w1 ⟨rfl,rfl⟩
   go_wp2_with fail
   refine(zn _ _ _ _ h0 h1 HS.out).mono ?_
   rintro e w1 ⟨rfl,rfl⟩
   go_wp2_with fail
   go_ret
   exact⟨bi E.out.symm,rfl⟩
  ·have E:Hid (bC W n=0):=hid (by unfold bC;rw[if_pos hw,if_neg h])
   have h2:0≤n:=by omega
   have h4:n+0≤ay W:=by omega
   have HW:=hid hw
   clear hw h
   go_enter Tryz.func218,Tryz.ntmps218
   go_wp2_with fail
   refine(gW _ _).mono ?_
   rw[HW.out]
   rintro e w1 ⟨rfl,rfl⟩
   go_wp2_with fail
   refine(wF _ _ _ _ h0 h1 h2 (by decide) h4).mono ?_
   rintro e w1 ⟨rfl,rfl⟩
   go_wp2_with fail
   go_ret
   exact⟨bi E.out.symm,rfl⟩
set_option maxHeartbeats 400000 in
theorem mG(W p d:Int)(w:World):
  Calls Tryz.prog 215 #[.int .i64 W,.int .i64 p,.int .i64 d] w fun e w'=>e=.returned (.tuple #[.int .i64 (aM W p d),.int .i64 (aW W p d)])∧w=w':=by
 cases hw:uw W with
 |false=>
  have E1:aW W p d=1:=by unfold aW;rw[hw];rfl
  have E:Hid (aM W p d=0∧aW W p d=1):=hid ⟨by unfold aM;rw[E1];rfl,E1⟩
  have HW:=hid hw
  clear hw E1
  go_enter Tryz.func215,Tryz.ntmps215
  go_wp2_with fail
  refine(gW _ _).mono ?_
  rw[HW.out]
  rintro e w1 ⟨rfl,rfl⟩
  go_wp2_with fail
  go_ret2
  exact⟨by rw[E.out.1,E.out.2];rfl,rfl⟩
 |true=>
  obtain⟨h0,h1⟩:=lN hw
  by_cases h:p<0∨d<0∨ay W<p+d
  ·have E1:aW W p d=3:=by unfold aW;rw[if_pos hw,if_pos h]
   have E:Hid (aM W p d=0∧aW W p d=3):=hid ⟨by unfold aM;rw[E1];rfl,E1⟩
   have HW:=hid hw
   have HS:=hid h
   clear hw E1 h
   go_enter Tryz.func215,Tryz.ntmps215
   go_wp2_with fail
   refine(gW _ _).mono ?_
   rw[HW.out]
   rintro e w1 ⟨rfl,rfl⟩
   go_wp2_with fail
   refine(zn _ _ _ _ h0 h1 HS.out).mono ?_
   rintro e w1 ⟨rfl,rfl⟩
   go_wp2_with fail
   go_ret2
   exact⟨by rw[E.out.1,E.out.2];rfl,rfl⟩
  ·have E1:aW W p d=0:=by unfold aW;rw[if_pos hw,if_neg h]
   have E:Hid (aM W p d=1+aR W (p+d)∧aW W p d=0):=hid ⟨by unfold aM;rw[E1];rfl,E1⟩
   have h2:0≤p:=by omega
   have h3:0≤d:=by omega
   have h4:p+d≤ay W:=by omega
   have hf:=dh h0 h1
   have L:=jN h0 h1 h4
   have HL:Hid (∀w',Calls Tryz.prog 219 #[.int .i64 W,.int .i64 (p+d)] w' fun e w''=>e=.returned (.int .i64 (aR W (p+d)))∧w'=w''):=hid (fun w'=>mH W _ w' h0 h1 h4 (by omega))
   have HW:=hid hw
   clear hw E1 h
   go_enter Tryz.func215,Tryz.ntmps215
   go_wp2_with fail
   refine(gW _ _).mono ?_
   rw[HW.out]
   rintro e w1 ⟨rfl,rfl⟩
   go_wp2_with fail
   refine(wF _ _ _ _ h0 h1 h2 h3 h4).mono ?_
   rintro e w1 ⟨rfl,rfl⟩
   go_wp2_with fail
   refine(HL.out _).mono ?_
   rintro e w1 ⟨rfl,rfl⟩
   go_wp2_with fail
   go_ret2
   exact⟨by rw[E.out.1,E.out.2];rfl,rfl⟩
def gJ(W n i:Int)(w:World)(e:Ending)(w':World):Prop:=
 e=.returned (.tuple #[.int .i64 (gu W n i),.int .i64 (eU W n i),.int .i64 (bI W n i)])∧bR w w'
set_option maxHeartbeats 400000 in
theorem xL(W n i:Int)(w:World)(he:bC W n≠0):
  Calls Tryz.prog 191 #[.int .i64 W,.int .i64 n,.int .i64 i] w (gJ W n i w):=by
 have e1:bI W n i=bC W n:=by unfold bI;rw[if_neg he]
 have e2:=kQ (W:=W) (n:=n) (i:=i) (by rw[e1];exact he)
 have E:Hid (gu W n i=0∧eU W n i=0∧bI W n i=bC W n):=hid ⟨e2.1,e2.2,e1⟩
 clear e1 e2
 have g:=nH he
 clear he
 go_enter Tryz.func191,Tryz.ntmps191
 go_wp2_with fail
 refine(kS _ _ _).mono ?_
 rintro e w1 ⟨rfl,rfl⟩
 go_wp2_with fail
 go_ret3
 exact⟨by rw[E.out.1,E.out.2.1,E.out.2.2];rfl,bR.refl _⟩
set_option maxHeartbeats 400000 in
theorem Aw(W n i:Int)(w:World)(he:bC W n=0)(hi:i<0∨n≤i):
  Calls Tryz.prog 191 #[.int .i64 W,.int .i64 n,.int .i64 i] w (gJ W n i w):=by
 have e1:bI W n i=7:=by unfold bI;rw[if_pos he,if_pos hi]
 have e2:=kQ (W:=W) (n:=n) (i:=i) (by rw[e1];decide)
 have E:Hid (gu W n i=0∧eU W n i=0∧bI W n i=7):=hid ⟨e2.1,e2.2,e1⟩
 clear e1 e2
 have HE:=hid he
 clear he
 by_cases h:i<0
 all_goals
  go_enter Tryz.func191,Tryz.ntmps191
  go_wp2_with fail
  refine(kS _ _ _).mono ?_
  rw[HE.out]
  rintro e w1 ⟨rfl,rfl⟩
  have hi2:i<0∨n≤i:=hi
  go_wp2_with fail
  go_ret3
  exact⟨by rw[E.out.1,E.out.2.1,E.out.2.2];rfl,bR.refl _⟩
set_option maxHeartbeats 400000 in
theorem xK(W n i:Int)(w:World)(hp:bI W n i=0)(hn:n≤W-8):
  Calls Tryz.prog 191 #[.int .i64 W,.int .i64 n,.int .i64 i] w (gJ W n i w):=by
 obtain⟨he,i0,i1⟩:=oL hp
 obtain⟨h0,h1,h2,h3⟩:=oQ he
 obtain⟨e2,e3⟩:=kP hp hn
 have E:Hid (gu W n i= -1∧eU W n i=8+i∧bI W n i=0):=hid ⟨e2,e3,hp⟩
 have L:Hid (aR W n=0):=hid (fQ hn)
 have HE:=hid he
 clear he e2 e3 hp
 go_enter Tryz.func191,Tryz.ntmps191
 go_wp2_with fail
 refine(kS _ _ _).mono ?_
 rw[HE.out]
 rintro e w1 ⟨rfl,rfl⟩
 go_wp2_with fail
 refine(mH _ _ _ h0 h1 h3 (by omega)).mono ?_
 rw[L.out]
 rintro e w1 ⟨rfl,rfl⟩
 go_wp2_with fail
 go_ret3
 exact⟨by rw[E.out.1,E.out.2.1,E.out.2.2];rfl,bR.refl _⟩
set_option maxHeartbeats 400000 in
theorem DJ(W n i:Int)(w:World)(hp:bI W n i=0)(hn:W-8<n):
  Calls Tryz.prog 191 #[.int .i64 W,.int .i64 n,.int .i64 i] w (gJ W n i w):=by
 obtain⟨he,i0,i1⟩:=oL hp
 obtain⟨h0,h1,h2,h3⟩:=oQ he
 obtain⟨e2,e3⟩:=oM hp hn
 have hf:=dh h0 h1
 obtain⟨p1,p2,p3,p4⟩:=Iz (m:=W-1) (i:=i) (by omega) i0
 have hq:=Int.ediv_le_self (W-1) i0
 have E:Hid (gu W n i=i/(W-1)∧eU W n i=1+i%(W-1)∧bI W n i=0):=hid ⟨e2,e3,hp⟩
 have L:=(iR h0 h1 hn h3).1
 have g:=nH (show aR W n≠0 by omega)
 have g2:=nH (show W-1≠0 by omega)
 have HE:=hid he
 clear he e2 e3 hp p1
 go_enter Tryz.func191,Tryz.ntmps191
 go_wp2_with fail
 refine(kS _ _ _).mono ?_
 rw[HE.out]
 rintro e w1 ⟨rfl,rfl⟩
 go_wp2_with fail
 refine(mH _ _ _ h0 h1 h3 (by omega)).mono ?_
 rintro e w1 ⟨rfl,rfl⟩
 go_wp2_with fail
 go_quiet (fail)
 go_wp2_with fail
 go_ret3
 exact⟨by rw[E.out.1,E.out.2.1,E.out.2.2];rfl,_,rfl⟩
theorem DI(W n i:Int)(w:World):
  Calls Tryz.prog 191 #[.int .i64 W,.int .i64 n,.int .i64 i] w (gJ W n i w):=by
 by_cases he:bC W n=0
 ·by_cases hi:i<0∨n≤i
  ·exact Aw W n i w he hi
  ·have hp:=oK he (i:=i) (by omega) (by omega)
   by_cases hn:n≤W-8
   ·exact xK W n i w hp hn
   ·exact DJ W n i w hp (by omega)
 ·exact xL W n i w he
end Go.Proofs.YtofhdfjkhfkhiaaGreat.Pk
