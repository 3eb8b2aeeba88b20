/-
  What the document's functions of layer 7 return.
-/
import Derived.Test.YtbhhfnlkpieebaaGreatProg
import Derived.Test.YtbhhfnlkpieebaaGreatBaseEtc
import Derived.Test.YtbhhfnlkpieebaaGreatPlanFnEtc
import Derived.IntWalk
import Derived.OwnWalk
namespace Go.Proofs.YtbhhfnlkpieebaaGreat.Pk
open Lib (hid)
open Go.RowKit
set_option linter.unusedVariables false
set_option linter.unusedSimpArgs false
set_option maxHeartbeats 400000 in
theorem gB(W:Int)(w:World):
  Calls Tryz.prog 234 #[.int .i64 W] w fun e w'=>e=.returned (.bool (sV W))∧w=w':=by
 by_cases h0:16≤W
 ·by_cases h1:W≤256
  ·have E:=hid (qF h0 h1)
   go_enter Tryz.func234,Tryz.ntmps234
   go_wp2
   go_ret
   exact⟨aj E.out.symm,rfl⟩
  ·have E:=hid (qG (W:=W) (by omega))
   go_enter Tryz.func234,Tryz.ntmps234
   go_wp2
   go_ret
   exact⟨aj E.out.symm,rfl⟩
 ·have E:=hid (qG (W:=W) (by omega))
  go_enter Tryz.func234,Tryz.ntmps234
  go_wp2
  go_ret
  exact⟨aj E.out.symm,rfl⟩
set_option maxHeartbeats 400000 in
theorem qx(W:Int)(w:World)(h0:16≤W)(h1:W≤256):
  Calls Tryz.prog 238 #[.int .i64 W] w fun e w'=>e=.returned (.int .i64 (au W))∧w=w':=by
 have hf:120≤(W-8)*(W-1)∧(W-8)*(W-1)≤63240:=bQ h0 h1
 go_enter Tryz.func238,Tryz.ntmps238
 go_wp2
 go_ret
 exact⟨rfl,rfl⟩
set_option maxHeartbeats 400000 in
theorem lT(W n:Int)(w:World)(h0:16≤W)(h1:W≤256)(h3:n≤au W)(hm: -9223372036854775808≤n):
  Calls Tryz.prog 218 #[.int .i64 W,.int .i64 n] w fun e w'=>e=.returned (.int .i64 (aN W n))∧w=w':=by
 have hf:=bQ h0 h1
 by_cases h:n≤W-8
 ·have E:=hid (fo h)
  go_enter Tryz.func218,Tryz.ntmps218
  go_wp2
  go_ret
  exact⟨aU E.out.symm,rfl⟩
 ·have L:=il h0 h1 (by omega) h3
  have HL:Hid (∀k:Int,0≤k→k≤aN W n→(k<aN W n↔k*(W-1)<n)∧0≤k*(W-1)∧k*(W-1)≤70000):=hid (fun k k0 k1=>by
   have h4:=Int.mul_nonneg k0 (show 0≤W-1 by omega)
   have h5:=LV (m:=W-1) (by omega) k1
   refine⟨⟨fun hk=> ?_,fun hk=> ?_⟩,h4,by omega⟩
   ·have:=Fe (m:=W-1) (by omega) hk
    omega
   ·by_cases e:k<aN W n
    ·exact e
    ·have:k=aN W n:=by omega
     subst this;omega)
  have g1:aN W n≤W-8:=L.2.1
  have g2:1≤aN W n:=L.1
  clear L
  generalize hq:aN W n=q at*
  clear hq
  go_enter Tryz.func218,Tryz.ntmps218
  go_wp2
  go_loop [5] (fun i=>∃k:Int,0≤k∧k≤q∧i=.int .i64 k) (fun i=>(q-intOf i).toNat)
  case atStart=>exact⟨0,Int.le_refl _,by omega,rfl⟩
  case round=>
   obtain⟨k,k0,k1,rfl⟩:=hrel
   obtain⟨c1,c2,c3⟩:=HL.out k k0 k1
   by_cases hk:k<q
   ·have hk2:=c1.1 hk
    clear c1
    go_wp2
    go_round
    case rel=>exact⟨k+1,by omega,by omega,rfl⟩
    case measure=>simp[intOf];omega
   ·have hk2:¬k*(W-1)<n:=fun h=>hk (c1.2 h)
    have e:k=q:=by omega
    have HE:=hid e
    clear c1 e
    go_wp2
    go_ret
    exact⟨aU HE.out,rfl⟩
set_option maxHeartbeats 400000 in
theorem vo(W p d:Int)(w:World)(h0:16≤W)(h1:W≤256)(h2:0≤p)(h3:0≤d)(h4:p+d≤au W):
  Calls Tryz.prog 235 #[.int .i64 W,.int .i64 p,.int .i64 d] w fun e w'=>e=.returned (.bool true)∧w=w':=by
 have hf:=bQ h0 h1
 have g1:p≤au W:=by omega
 have g2:d≤au W:=by omega
 have HF:Hid (∀w',Calls Tryz.prog 238 #[.int .i64 W] w' fun e w''=>e=.returned (.int .i64 (au W))∧w'=w''):=hid (fun w'=>qx W w' h0 h1)
 go_enter Tryz.func235,Tryz.ntmps235
 go_wp2_with fail
 refine(HF.out _).mono ?_
 rintro e w1 ⟨rfl,rfl⟩
 go_wp2_with fail
 refine(HF.out _).mono ?_
 rintro e w1 ⟨rfl,rfl⟩
 go_wp2_with fail
 refine(HF.out _).mono ?_
 rintro e w1 ⟨rfl,rfl⟩
 go_wp2_with fail
 go_ret
 exact⟨aj (by first|rfl|(simp;done)|(simp;omega)),rfl⟩
set_option maxHeartbeats 400000 in
theorem xX(W p d:Int)(w:World)(h0:16≤W)(h1:W≤256)(h:p<0∨d<0∨au W<p+d):
  Calls Tryz.prog 235 #[.int .i64 W,.int .i64 p,.int .i64 d] w fun e w'=>e=.returned (.bool false)∧w=w':=by
 have hf:=bQ h0 h1
 have HF:Hid (∀w',Calls Tryz.prog 238 #[.int .i64 W] w' fun e w''=>e=.returned (.int .i64 (au W))∧w'=w''):=hid (fun w'=>qx W w' h0 h1)
 by_cases hp:p<0
 ·go_enter Tryz.func235,Tryz.ntmps235
  go_wp2_with fail
  go_ret
  exact⟨rfl,rfl⟩
 ·by_cases hd:d<0
  ·go_enter Tryz.func235,Tryz.ntmps235
   go_wp2_with fail
   go_ret
   exact⟨rfl,rfl⟩
  ·by_cases hp2:au W<p
   ·go_enter Tryz.func235,Tryz.ntmps235
    go_wp2_with fail
    refine(HF.out _).mono ?_
    rintro e w1 ⟨rfl,rfl⟩
    go_wp2_with fail
    go_ret
    exact⟨rfl,rfl⟩
   ·by_cases hd2:au W<d
    ·go_enter Tryz.func235,Tryz.ntmps235
     go_wp2_with fail
     refine(HF.out _).mono ?_
     rintro e w1 ⟨rfl,rfl⟩
     go_wp2_with fail
     refine(HF.out _).mono ?_
     rintro e w1 ⟨rfl,rfl⟩
     go_wp2_with fail
     go_ret
     exact⟨rfl,rfl⟩
    ·have hs:au W<p+d:=by omega
     go_enter Tryz.func235,Tryz.ntmps235
     go_wp2_with fail
     refine(HF.out _).mono ?_
     rintro e w1 ⟨rfl,rfl⟩
     go_wp2_with fail
     refine(HF.out _).mono ?_
     rintro e w1 ⟨rfl,rfl⟩
     go_wp2_with fail
     refine(HF.out _).mono ?_
     rintro e w1 ⟨rfl,rfl⟩
     go_wp2_with fail
     go_ret
     exact⟨aj (by first|rfl|(simp;done)|(simp;omega)),rfl⟩
set_option maxHeartbeats 400000 in
theorem kg(W n:Int)(w:World):
  Calls Tryz.prog 217 #[.int .i64 W,.int .i64 n] w fun e w'=>e=.returned (.int .i64 (bi W n))∧w=w':=by
 cases hw:sV W with
 |false=>
  have E:Hid (bi W n=1):=hid (by unfold bi;rw[hw];rfl)
  have HW:=hid hw
  clear hw
  go_enter Tryz.func217,Tryz.ntmps217
  go_wp2_with fail
  refine(gB _ _).mono ?_
  rw[HW.out]
  rintro e w1 ⟨rfl,rfl⟩
  go_wp2_with fail
  go_ret
  exact⟨aU E.out.symm,rfl⟩
 |true=>
  obtain⟨h0,h1⟩:=kU hw
  by_cases h:n<0∨au W<n
  ·have E:Hid (bi W n=3):=hid (by unfold bi;rw[if_pos hw,if_pos h])
   have HS:=hid (show n<0∨(0:Int)<0∨au W<n+0 by omega)
   have HW:=hid hw
   clear hw h
   go_enter Tryz.func217,Tryz.ntmps217
   go_wp2_with fail
   refine(gB _ _).mono ?_
   rw[HW.out]
   rintro e w1 ⟨rfl,rfl⟩
   go_wp2_with fail
   refine(xX _ _ _ _ h0 h1 HS.out).mono ?_
   rintro e w1 ⟨rfl,rfl⟩
   go_wp2_with fail
   go_ret
   exact⟨aU E.out.symm,rfl⟩
  ·have E:Hid (bi W n=0):=hid (by unfold bi;rw[if_pos hw,if_neg h])
   have h2:0≤n:=by omega
   have h4:n+0≤au W:=by omega
   have HW:=hid hw
   clear hw h
   go_enter Tryz.func217,Tryz.ntmps217
   go_wp2_with fail
   refine(gB _ _).mono ?_
   rw[HW.out]
   rintro e w1 ⟨rfl,rfl⟩
   go_wp2_with fail
   refine(vo _ _ _ _ h0 h1 h2 (by decide) h4).mono ?_
   rintro e w1 ⟨rfl,rfl⟩
   go_wp2_with fail
   go_ret
   exact⟨aU E.out.symm,rfl⟩
set_option maxHeartbeats 400000 in
theorem lS(W p d:Int)(w:World):
  Calls Tryz.prog 214 #[.int .i64 W,.int .i64 p,.int .i64 d] w fun e w'=>e=.returned (.tuple #[.int .i64 (blocksV W p d),.int .i64 (sizeE W p d)])∧w=w':=by
 cases hw:sV W with
 |false=>
  have E1:sizeE W p d=1:=by unfold sizeE;rw[hw];rfl
  have E:Hid (blocksV W p d=0∧sizeE W p d=1):=hid ⟨by unfold blocksV;rw[E1];rfl,E1⟩
  have HW:=hid hw
  clear hw E1
  go_enter Tryz.func214,Tryz.ntmps214
  go_wp2_with fail
  refine(gB _ _).mono ?_
  rw[HW.out]
  rintro e w1 ⟨rfl,rfl⟩
  go_wp2_with fail
  go_ret2
  exact⟨by rw[E.out.1,E.out.2];rfl,rfl⟩
 |true=>
  obtain⟨h0,h1⟩:=kU hw
  by_cases h:p<0∨d<0∨au W<p+d
  ·have E1:sizeE W p d=3:=by unfold sizeE;rw[if_pos hw,if_pos h]
   have E:Hid (blocksV W p d=0∧sizeE W p d=3):=hid ⟨by unfold blocksV;rw[E1];rfl,E1⟩
   have HW:=hid hw
   have HS:=hid h
   clear hw E1 h
   go_enter Tryz.func214,Tryz.ntmps214
   go_wp2_with fail
   refine(gB _ _).mono ?_
   rw[HW.out]
   rintro e w1 ⟨rfl,rfl⟩
   go_wp2_with fail
   refine(xX _ _ _ _ h0 h1 HS.out).mono ?_
   rintro e w1 ⟨rfl,rfl⟩
   go_wp2_with fail
   go_ret2
   exact⟨by rw[E.out.1,E.out.2];rfl,rfl⟩
  ·have E1:sizeE W p d=0:=by unfold sizeE;rw[if_pos hw,if_neg h]
   have E:Hid (blocksV W p d=1+aN W (p+d)∧sizeE W p d=0):=hid ⟨by unfold blocksV;rw[E1];rfl,E1⟩
   have h2:0≤p:=by omega
   have h3:0≤d:=by omega
   have h4:p+d≤au W:=by omega
   have hf:=bQ h0 h1
   have L:=ji h0 h1 h4
   have HL:Hid (∀w',Calls Tryz.prog 218 #[.int .i64 W,.int .i64 (p+d)] w' fun e w''=>e=.returned (.int .i64 (aN W (p+d)))∧w'=w''):=hid (fun w'=>lT W _ w' h0 h1 h4 (by omega))
   have HW:=hid hw
   clear hw E1 h
   go_enter Tryz.func214,Tryz.ntmps214
   go_wp2_with fail
   refine(gB _ _).mono ?_
   rw[HW.out]
   rintro e w1 ⟨rfl,rfl⟩
   go_wp2_with fail
   refine(vo _ _ _ _ h0 h1 h2 h3 h4).mono ?_
   rintro e w1 ⟨rfl,rfl⟩
   go_wp2_with fail
   refine(HL.out _).mono ?_
   rintro e w1 ⟨rfl,rfl⟩
   go_wp2_with fail
   go_ret2
   exact⟨by rw[E.out.1,E.out.2];rfl,rfl⟩
def fU(W n i:Int)(w:World)(e:Ending)(w':World):Prop:=
 e=.returned (.tuple #[.int .i64 (fG W n i),.int .i64 (dU W n i),.int .i64 (bu W n i)])∧bU w w'
set_option maxHeartbeats 400000 in
theorem wF(W n i:Int)(w:World)(he:bi W n≠0):
  Calls Tryz.prog 187 #[.int .i64 W,.int .i64 n,.int .i64 i] w (fU W n i w):=by
 have e1:bu W n i=bi W n:=by unfold bu;rw[if_neg he]
 have e2:=jY (W:=W) (n:=n) (i:=i) (by rw[e1];exact he)
 have E:Hid (fG W n i=0∧dU W n i=0∧bu W n i=bi W n):=hid ⟨e2.1,e2.2,e1⟩
 clear e1 e2
 have g:=mX he
 clear he
 go_enter Tryz.func187,Tryz.ntmps187
 go_wp2_with fail
 refine(kg _ _ _).mono ?_
 rintro e w1 ⟨rfl,rfl⟩
 go_wp2_with fail
 go_ret3
 exact⟨by rw[E.out.1,E.out.2.1,E.out.2.2];rfl,bU.refl _⟩
set_option maxHeartbeats 400000 in
theorem zh(W n i:Int)(w:World)(he:bi W n=0)(hi:i<0∨n≤i):
  Calls Tryz.prog 187 #[.int .i64 W,.int .i64 n,.int .i64 i] w (fU W n i w):=by
 have e1:bu W n i=7:=by unfold bu;rw[if_pos he,if_pos hi]
 have e2:=jY (W:=W) (n:=n) (i:=i) (by rw[e1];decide)
 have E:Hid (fG W n i=0∧dU W n i=0∧bu W n i=7):=hid ⟨e2.1,e2.2,e1⟩
 clear e1 e2
 have HE:=hid he
 clear he
 by_cases h:i<0
 all_goals
  go_enter Tryz.func187,Tryz.ntmps187
  go_wp2_with fail
  refine(kg _ _ _).mono ?_
  rw[HE.out]
  rintro e w1 ⟨rfl,rfl⟩
  have hi2:i<0∨n≤i:=hi
  go_wp2_with fail
  go_ret3
  exact⟨by rw[E.out.1,E.out.2.1,E.out.2.2];rfl,bU.refl _⟩
set_option maxHeartbeats 400000 in
theorem wE(W n i:Int)(w:World)(hp:bu W n i=0)(hn:n≤W-8):
  Calls Tryz.prog 187 #[.int .i64 W,.int .i64 n,.int .i64 i] w (fU W n i w):=by
 obtain⟨he,i0,i1⟩:=oq hp
 obtain⟨h0,h1,h2,h3⟩:=oG he
 obtain⟨e2,e3⟩:=jX hp hn
 have E:Hid (fG W n i= -1∧dU W n i=8+i∧bu W n i=0):=hid ⟨e2,e3,hp⟩
 have L:Hid (aN W n=0):=hid (fo hn)
 have HE:=hid he
 clear he e2 e3 hp
 go_enter Tryz.func187,Tryz.ntmps187
 go_wp2_with fail
 refine(kg _ _ _).mono ?_
 rw[HE.out]
 rintro e w1 ⟨rfl,rfl⟩
 go_wp2_with fail
 refine(lT _ _ _ h0 h1 h3 (by omega)).mono ?_
 rw[L.out]
 rintro e w1 ⟨rfl,rfl⟩
 go_wp2_with fail
 go_ret3
 exact⟨by rw[E.out.1,E.out.2.1,E.out.2.2];rfl,bU.refl _⟩
set_option maxHeartbeats 400000 in
theorem BN(W n i:Int)(w:World)(hp:bu W n i=0)(hn:W-8<n):
  Calls Tryz.prog 187 #[.int .i64 W,.int .i64 n,.int .i64 i] w (fU W n i w):=by
 obtain⟨he,i0,i1⟩:=oq hp
 obtain⟨h0,h1,h2,h3⟩:=oG he
 obtain⟨e2,e3⟩:=ou hp hn
 have hf:=bQ h0 h1
 obtain⟨p1,p2,p3,p4⟩:=Fw (m:=W-1) (i:=i) (by omega) i0
 have hq:=Int.ediv_le_self (W-1) i0
 have E:Hid (fG W n i=i/(W-1)∧dU W n i=1+i%(W-1)∧bu W n i=0):=hid ⟨e2,e3,hp⟩
 have L:=(il h0 h1 hn h3).1
 have g:=mX (show aN W n≠0 by omega)
 have g2:=mX (show W-1≠0 by omega)
 have HE:=hid he
 clear he e2 e3 hp p1
 go_enter Tryz.func187,Tryz.ntmps187
 go_wp2_with fail
 refine(kg _ _ _).mono ?_
 rw[HE.out]
 rintro e w1 ⟨rfl,rfl⟩
 go_wp2_with fail
 refine(lT _ _ _ h0 h1 h3 (by omega)).mono ?_
 rintro e w1 ⟨rfl,rfl⟩
 go_wp2_with fail
 go_quiet (fail)
 go_wp2_with fail
 go_ret3
 exact⟨by rw[E.out.1,E.out.2.1,E.out.2.2];rfl,_,rfl⟩
theorem BL(W n i:Int)(w:World):
  Calls Tryz.prog 187 #[.int .i64 W,.int .i64 n,.int .i64 i] w (fU W n i w):=by
 by_cases he:bi W n=0
 ·by_cases hi:i<0∨n≤i
  ·exact zh W n i w he hi
  ·have hp:=oo he (i:=i) (by omega) (by omega)
   by_cases hn:n≤W-8
   ·exact wE W n i w hp hn
   ·exact BN W n i w hp (by omega)
 ·exact wF W n i w he
end Go.Proofs.YtbhhfnlkpieebaaGreat.Pk
