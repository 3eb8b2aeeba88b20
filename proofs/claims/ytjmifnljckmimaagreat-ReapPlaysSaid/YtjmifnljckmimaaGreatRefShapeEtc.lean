/-
  What the document's functions of layer 7 return.
-/
import Derived.Test.YtjmifnljckmimaaGreatProg
import Derived.Test.YtjmifnljckmimaaGreatBaseEtc
import Derived.Test.YtjmifnljckmimaaGreatPlanFnEtc
import Derived.IntWalk
import Derived.OwnWalk
namespace Go.Proofs.YtjmifnljckmimaaGreat.Pk
open Lib (hid)
open Go.RowKit
set_option linter.unusedVariables false
set_option linter.unusedSimpArgs false
set_option maxHeartbeats 400000 in
theorem jg(W:Int)(w:World):
  Calls Tryz.prog 222 #[.int .i64 W] w fun e w'=>e=.returned (.bool (wJ W))∧w=w':=by
 by_cases h0:16≤W
 ·by_cases h1:W≤256
  ·have E:=hid (ut h0 h1)
   go_enter Tryz.func222,Tryz.ntmps222
   go_wp2
   go_ret
   exact⟨aJ E.out.symm,rfl⟩
  ·have E:=hid (uu (W:=W) (by omega))
   go_enter Tryz.func222,Tryz.ntmps222
   go_wp2
   go_ret
   exact⟨aJ E.out.symm,rfl⟩
 ·have E:=hid (uu (W:=W) (by omega))
  go_enter Tryz.func222,Tryz.ntmps222
  go_wp2
  go_ret
  exact⟨aJ E.out.symm,rfl⟩
set_option maxHeartbeats 400000 in
theorem uf(W:Int)(w:World)(h0:16≤W)(h1:W≤256):
  Calls Tryz.prog 230 #[.int .i64 W] w fun e w'=>e=.returned (.int .i64 (aL W))∧w=w':=by
 have hf:120≤(W-8)*(W-1)∧(W-8)*(W-1)≤63240:=dU h0 h1
 go_enter Tryz.func230,Tryz.ntmps230
 go_wp2
 go_ret
 exact⟨rfl,rfl⟩
set_option maxHeartbeats 400000 in
theorem oH(W n:Int)(w:World)(h0:16≤W)(h1:W≤256)(h3:n≤aL W)(hm: -9223372036854775808≤n):
  Calls Tryz.prog 212 #[.int .i64 W,.int .i64 n] w fun e w'=>e=.returned (.int .i64 (bA W n))∧w=w':=by
 have hf:=dU h0 h1
 by_cases h:n≤W-8
 ·have E:=hid (iG h)
  go_enter Tryz.func212,Tryz.ntmps212
  go_wp2
  go_ret
  exact⟨bO E.out.symm,rfl⟩
 ·have L:=jR h0 h1 (by omega) h3
  have HL:Hid (∀k:Int,0≤k→k≤bA W n→(k<bA W n↔k*(W-1)<n)∧0≤k*(W-1)∧k*(W-1)≤70000):=hid (fun k k0 k1=>by
   have h4:=Int.mul_nonneg k0 (show 0≤W-1 by omega)
   have h5:=Ri (m:=W-1) (by omega) k1
   refine⟨⟨fun hk=> ?_,fun hk=> ?_⟩,h4,by omega⟩
   ·have:=Kz (m:=W-1) (by omega) hk
    omega
   ·by_cases e:k<bA W n
    ·exact e
    ·have:k=bA W n:=by omega
     subst this;omega)
  have g1:bA W n≤W-8:=L.2.1
  have g2:1≤bA W n:=L.1
  clear L
  generalize hq:bA W n=q at*
  clear hq
  go_enter Tryz.func212,Tryz.ntmps212
  go_wp2
  go_loop [5] (fun i=>∃k:Int,0≤k∧k≤q∧i=.int .i64 k) (fun i=>(q-intOf i).toNat)
  case atStart=>exact⟨0,Int.le_refl _,by omega,rfl⟩
  case round=>
   obtain⟨k,k0,k1,rfl⟩:=hrel
   obtain⟨c1,c2,c3⟩:=HL.out k k0 k1
   by_cases hk:k<q
   ·have hk2:=c1.1 hk
    clear c1
    go_wp2
    go_round
    case rel=>exact⟨k+1,by omega,by omega,rfl⟩
    case measure=>simp[intOf];omega
   ·have hk2:¬k*(W-1)<n:=fun h=>hk (c1.2 h)
    have e:k=q:=by omega
    have HE:=hid e
    clear c1 e
    go_wp2
    go_ret
    exact⟨bO HE.out,rfl⟩
set_option maxHeartbeats 400000 in
theorem yw(W p d:Int)(w:World)(h0:16≤W)(h1:W≤256)(h2:0≤p)(h3:0≤d)(h4:p+d≤aL W):
  Calls Tryz.prog 223 #[.int .i64 W,.int .i64 p,.int .i64 d] w fun e w'=>e=.returned (.bool true)∧w=w':=by
 have hf:=dU h0 h1
 have g1:p≤aL W:=by omega
 have g2:d≤aL W:=by omega
 have HF:Hid (∀w',Calls Tryz.prog 230 #[.int .i64 W] w' fun e w''=>e=.returned (.int .i64 (aL W))∧w'=w''):=hid (fun w'=>uf W w' h0 h1)
 go_enter Tryz.func223,Tryz.ntmps223
 go_wp2_with fail
 refine(HF.out _).mono ?_
 rintro e w1 ⟨rfl,rfl⟩
 go_wp2_with fail
 refine(HF.out _).mono ?_
 rintro e w1 ⟨rfl,rfl⟩
 go_wp2_with fail
 refine(HF.out _).mono ?_
 rintro e w1 ⟨rfl,rfl⟩
 go_wp2_with fail
 go_ret
 exact⟨aJ (by first|rfl|(simp;done)|(simp;omega)),rfl⟩
set_option maxHeartbeats 400000 in
theorem AV(W p d:Int)(w:World)(h0:16≤W)(h1:W≤256)(h:p<0∨d<0∨aL W<p+d):
  Calls Tryz.prog 223 #[.int .i64 W,.int .i64 p,.int .i64 d] w fun e w'=>e=.returned (.bool false)∧w=w':=by
 have hf:=dU h0 h1
 have HF:Hid (∀w',Calls Tryz.prog 230 #[.int .i64 W] w' fun e w''=>e=.returned (.int .i64 (aL W))∧w'=w''):=hid (fun w'=>uf W w' h0 h1)
 by_cases hp:p<0
 ·go_enter Tryz.func223,Tryz.ntmps223
  go_wp2_with fail
  go_ret
  exact⟨rfl,rfl⟩
 ·by_cases hd:d<0
  ·go_enter Tryz.func223,Tryz.ntmps223
   go_wp2_with fail
   go_ret
   exact⟨rfl,rfl⟩
  ·by_cases hp2:aL W<p
   ·go_enter Tryz.func223,Tryz.ntmps223
    go_wp2_with fail
    refine(HF.out _).mono ?_
    rintro e w1 ⟨rfl,rfl⟩
    go_wp2_with fail
    go_ret
    exact⟨rfl,rfl⟩
   ·by_cases hd2:aL W<d
    ·go_enter Tryz.func223,Tryz.ntmps223
     go_wp2_with fail
     refine(HF.out _).mono ?_
     rintro e w1 ⟨rfl,rfl⟩
     go_wp2_with fail
     refine(HF.out _).mono ?_
     rintro e w1 ⟨rfl,rfl⟩
     go_wp2_with fail
     go_ret
     exact⟨rfl,rfl⟩
    ·have hs:aL W<p+d:=by omega
     go_enter Tryz.func223,Tryz.ntmps223
     go_wp2_with fail
     refine(HF.out _).mono ?_
     rintro e w1 ⟨rfl,rfl⟩
     go_wp2_with fail
     refine(HF.out _).mono ?_
     rintro e w1 ⟨rfl,rfl⟩
     go_wp2_with fail
     refine(HF.out _).mono ?_
     rintro e w1 ⟨rfl,rfl⟩
     go_wp2_with fail
     go_ret
     exact⟨aJ (by first|rfl|(simp;done)|(simp;omega)),rfl⟩
set_option maxHeartbeats 400000 in
theorem mR(W n:Int)(w:World):
  Calls Tryz.prog 211 #[.int .i64 W,.int .i64 n] w fun e w'=>e=.returned (.int .i64 (bX W n))∧w=w':=by
 cases hw:wJ W with
 |false=>
  have E:Hid (bX W n=1):=hid (by unfold bX;rw[hw];rfl)
  have HW:=hid hw
  clear hw
  go_enter Tryz.func211,Tryz.ntmps211
  go_wp2_with fail
  refine(jg _ _).mono ?_
  rw[HW.out]
  rintro e w1 ⟨rfl,rfl⟩
  go_wp2_with fail
  go_ret
  exact⟨bO E.out.symm,rfl⟩
 |true=>
  obtain⟨h0,h1⟩:=nN hw
  by_cases h:n<0∨aL W<n
  ·have E:Hid (bX W n=3):=hid (by unfold bX;rw[if_pos hw,if_pos h])
   have HS:=hid (show n<0∨(0:Int)<0∨aL W<n+0 by omega)
   have HW:=hid hw
   clear hw h
   go_enter Tryz.func211,Tryz.ntmps211
   go_wp2_with fail
   refine(jg _ _).mono ?_
   rw[HW.out]
   rintro e w1 ⟨rfl,rfl⟩
   go_wp2_with fail
   refine(AV _ _ _ _ h0 h1 HS.out).mono ?_
   rintro e w1 ⟨rfl,rfl⟩
   go_wp2_with fail
   go_ret
   exact⟨bO E.out.symm,rfl⟩
  ·have E:Hid (bX W n=0):=hid (by unfold bX;rw[if_pos hw,if_neg h])
   have h2:0≤n:=by omega
   have h4:n+0≤aL W:=by omega
   have HW:=hid hw
   clear hw h
   go_enter Tryz.func211,Tryz.ntmps211
   go_wp2_with fail
   refine(jg _ _).mono ?_
   rw[HW.out]
   rintro e w1 ⟨rfl,rfl⟩
   go_wp2_with fail
   refine(yw _ _ _ _ h0 h1 h2 (by decide) h4).mono ?_
   rintro e w1 ⟨rfl,rfl⟩
   go_wp2_with fail
   go_ret
   exact⟨bO E.out.symm,rfl⟩
set_option maxHeartbeats 400000 in
theorem oG(W p d:Int)(w:World):
  Calls Tryz.prog 202 #[.int .i64 W,.int .i64 p,.int .i64 d] w fun e w'=>e=.returned (.tuple #[.int .i64 (aZ W p d),.int .i64 (bF W p d)])∧w=w':=by
 cases hw:wJ W with
 |false=>
  have E1:bF W p d=1:=by unfold bF;rw[hw];rfl
  have E:Hid (aZ W p d=0∧bF W p d=1):=hid ⟨by unfold aZ;rw[E1];rfl,E1⟩
  have HW:=hid hw
  clear hw E1
  go_enter Tryz.func202,Tryz.ntmps202
  go_wp2_with fail
  refine(jg _ _).mono ?_
  rw[HW.out]
  rintro e w1 ⟨rfl,rfl⟩
  go_wp2_with fail
  go_ret2
  exact⟨by rw[E.out.1,E.out.2];rfl,rfl⟩
 |true=>
  obtain⟨h0,h1⟩:=nN hw
  by_cases h:p<0∨d<0∨aL W<p+d
  ·have E1:bF W p d=3:=by unfold bF;rw[if_pos hw,if_pos h]
   have E:Hid (aZ W p d=0∧bF W p d=3):=hid ⟨by unfold aZ;rw[E1];rfl,E1⟩
   have HW:=hid hw
   have HS:=hid h
   clear hw E1 h
   go_enter Tryz.func202,Tryz.ntmps202
   go_wp2_with fail
   refine(jg _ _).mono ?_
   rw[HW.out]
   rintro e w1 ⟨rfl,rfl⟩
   go_wp2_with fail
   refine(AV _ _ _ _ h0 h1 HS.out).mono ?_
   rintro e w1 ⟨rfl,rfl⟩
   go_wp2_with fail
   go_ret2
   exact⟨by rw[E.out.1,E.out.2];rfl,rfl⟩
  ·have E1:bF W p d=0:=by unfold bF;rw[if_pos hw,if_neg h]
   have E:Hid (aZ W p d=1+bA W (p+d)∧bF W p d=0):=hid ⟨by unfold aZ;rw[E1];rfl,E1⟩
   have h2:0≤p:=by omega
   have h3:0≤d:=by omega
   have h4:p+d≤aL W:=by omega
   have hf:=dU h0 h1
   have L:=lm h0 h1 h4
   have HL:Hid (∀w',Calls Tryz.prog 212 #[.int .i64 W,.int .i64 (p+d)] w' fun e w''=>e=.returned (.int .i64 (bA W (p+d)))∧w'=w''):=hid (fun w'=>oH W _ w' h0 h1 h4 (by omega))
   have HW:=hid hw
   clear hw E1 h
   go_enter Tryz.func202,Tryz.ntmps202
   go_wp2_with fail
   refine(jg _ _).mono ?_
   rw[HW.out]
   rintro e w1 ⟨rfl,rfl⟩
   go_wp2_with fail
   refine(yw _ _ _ _ h0 h1 h2 h3 h4).mono ?_
   rintro e w1 ⟨rfl,rfl⟩
   go_wp2_with fail
   refine(HL.out _).mono ?_
   rintro e w1 ⟨rfl,rfl⟩
   go_wp2_with fail
   go_ret2
   exact⟨by rw[E.out.1,E.out.2];rfl,rfl⟩
def iW(W n i:Int)(w:World)(e:Ending)(w':World):Prop:=
 e=.returned (.tuple #[.int .i64 (iM W n i),.int .i64 (gJ W n i),.int .i64 (cZ W n i)])∧dK w w'
set_option maxHeartbeats 400000 in
theorem zC(W n i:Int)(w:World)(he:bX W n≠0):
  Calls Tryz.prog 174 #[.int .i64 W,.int .i64 n,.int .i64 i] w (iW W n i w):=by
 have e1:cZ W n i=bX W n:=by unfold cZ;rw[if_neg he]
 have e2:=mO (W:=W) (n:=n) (i:=i) (by rw[e1];exact he)
 have E:Hid (iM W n i=0∧gJ W n i=0∧cZ W n i=bX W n):=hid ⟨e2.1,e2.2,e1⟩
 clear e1 e2
 have g:=pO he
 clear he
 go_enter Tryz.func174,Tryz.ntmps174
 go_wp2_with fail
 refine(mR _ _ _).mono ?_
 rintro e w1 ⟨rfl,rfl⟩
 go_wp2_with fail
 go_ret3
 exact⟨by rw[E.out.1,E.out.2.1,E.out.2.2];rfl,dK.refl _⟩
set_option maxHeartbeats 400000 in
theorem CS(W n i:Int)(w:World)(he:bX W n=0)(hi:i<0∨n≤i):
  Calls Tryz.prog 174 #[.int .i64 W,.int .i64 n,.int .i64 i] w (iW W n i w):=by
 have e1:cZ W n i=7:=by unfold cZ;rw[if_pos he,if_pos hi]
 have e2:=mO (W:=W) (n:=n) (i:=i) (by rw[e1];decide)
 have E:Hid (iM W n i=0∧gJ W n i=0∧cZ W n i=7):=hid ⟨e2.1,e2.2,e1⟩
 clear e1 e2
 have HE:=hid he
 clear he
 by_cases h:i<0
 all_goals
  go_enter Tryz.func174,Tryz.ntmps174
  go_wp2_with fail
  refine(mR _ _ _).mono ?_
  rw[HE.out]
  rintro e w1 ⟨rfl,rfl⟩
  have hi2:i<0∨n≤i:=hi
  go_wp2_with fail
  go_ret3
  exact⟨by rw[E.out.1,E.out.2.1,E.out.2.2];rfl,dK.refl _⟩
set_option maxHeartbeats 400000 in
theorem zB(W n i:Int)(w:World)(hp:cZ W n i=0)(hn:n≤W-8):
  Calls Tryz.prog 174 #[.int .i64 W,.int .i64 n,.int .i64 i] w (iW W n i w):=by
 obtain⟨he,i0,i1⟩:=qN hp
 obtain⟨h0,h1,h2,h3⟩:=qY he
 obtain⟨e2,e3⟩:=mM hp hn
 have E:Hid (iM W n i= -1∧gJ W n i=8+i∧cZ W n i=0):=hid ⟨e2,e3,hp⟩
 have L:Hid (bA W n=0):=hid (iG hn)
 have HE:=hid he
 clear he e2 e3 hp
 go_enter Tryz.func174,Tryz.ntmps174
 go_wp2_with fail
 refine(mR _ _ _).mono ?_
 rw[HE.out]
 rintro e w1 ⟨rfl,rfl⟩
 go_wp2_with fail
 refine(oH _ _ _ h0 h1 h3 (by omega)).mono ?_
 rw[L.out]
 rintro e w1 ⟨rfl,rfl⟩
 go_wp2_with fail
 go_ret3
 exact⟨by rw[E.out.1,E.out.2.1,E.out.2.2];rfl,dK.refl _⟩
set_option maxHeartbeats 400000 in
theorem FW(W n i:Int)(w:World)(hp:cZ W n i=0)(hn:W-8<n):
  Calls Tryz.prog 174 #[.int .i64 W,.int .i64 n,.int .i64 i] w (iW W n i w):=by
 obtain⟨he,i0,i1⟩:=qN hp
 obtain⟨h0,h1,h2,h3⟩:=qY he
 obtain⟨e2,e3⟩:=qO hp hn
 have hf:=dU h0 h1
 obtain⟨p1,p2,p3,p4⟩:=KJ (m:=W-1) (i:=i) (by omega) i0
 have hq:=Int.ediv_le_self (W-1) i0
 have E:Hid (iM W n i=i/(W-1)∧gJ W n i=1+i%(W-1)∧cZ W n i=0):=hid ⟨e2,e3,hp⟩
 have L:=(jR h0 h1 hn h3).1
 have g:=pO (show bA W n≠0 by omega)
 have g2:=pO (show W-1≠0 by omega)
 have HE:=hid he
 clear he e2 e3 hp p1
 go_enter Tryz.func174,Tryz.ntmps174
 go_wp2_with fail
 refine(mR _ _ _).mono ?_
 rw[HE.out]
 rintro e w1 ⟨rfl,rfl⟩
 go_wp2_with fail
 refine(oH _ _ _ h0 h1 h3 (by omega)).mono ?_
 rintro e w1 ⟨rfl,rfl⟩
 go_wp2_with fail
 go_quiet (fail)
 go_wp2_with fail
 go_ret3
 exact⟨by rw[E.out.1,E.out.2.1,E.out.2.2];rfl,_,rfl⟩
theorem FV(W n i:Int)(w:World):
  Calls Tryz.prog 174 #[.int .i64 W,.int .i64 n,.int .i64 i] w (iW W n i w):=by
 by_cases he:bX W n=0
 ·by_cases hi:i<0∨n≤i
  ·exact CS W n i w he hi
  ·have hp:=qM he (i:=i) (by omega) (by omega)
   by_cases hn:n≤W-8
   ·exact zB W n i w hp hn
   ·exact FW W n i w hp (by omega)
 ·exact zC W n i w he
end Go.Proofs.YtjmifnljckmimaaGreat.Pk
