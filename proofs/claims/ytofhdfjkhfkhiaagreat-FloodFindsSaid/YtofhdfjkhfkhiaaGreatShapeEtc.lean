/-
  What the inner functions of package shape return.
-/
import Derived.Test.YtofhdfjkhfkhiaaGreatProg
import Derived.Test.YtofhdfjkhfkhiaaGreatBaseEtc
import Derived.Test.YtofhdfjkhfkhiaaGreatPlanFnEtc
import Derived.IntWalk
import Derived.Lib.MinMax
namespace Go.Proofs.YtofhdfjkhfkhiaaGreat.Pk
open Lib (hid)
open Go.RowKit
set_option linter.unusedVariables false
set_option linter.unusedSimpArgs false
set_option maxHeartbeats 400000 in
theorem sN(W:Int)(w:World):
  Calls Tryz.prog 205 #[.int .i64 W] w fun e w'=>e=.returned (.bool (zR W))∧w=w':=by
 by_cases h0:16≤W
 ·by_cases h1:W≤256
  ·have E:=hid (tV h0 h1)
   go_enter Tryz.func205,Tryz.ntmps205
   go_wp2
   go_ret
   exact⟨aI E.out.symm,rfl⟩
  ·have E:=hid (CP (W:=W) (by omega))
   go_enter Tryz.func205,Tryz.ntmps205
   go_wp2
   go_ret
   exact⟨aI E.out.symm,rfl⟩
 ·have E:=hid (CP (W:=W) (by omega))
  go_enter Tryz.func205,Tryz.ntmps205
  go_wp2
  go_ret
  exact⟨aI E.out.symm,rfl⟩
set_option maxHeartbeats 400000 in
theorem kR(W:Int)(w:World)(h0:16≤W)(h1:W≤256):
  Calls Tryz.prog 225 #[.int .i64 W] w fun e w'=>e=.returned (.int .i64 (W-8))∧w=w':=by
 go_enter Tryz.func225,Tryz.ntmps225
 go_wp2
 go_ret
 exact⟨bP (by go_num),rfl⟩
set_option maxHeartbeats 400000 in
theorem iP(W:Int)(w:World)(h0:16≤W)(h1:W≤256):
  Calls Tryz.prog 208 #[.int .i64 W] w fun e w'=>e=.returned (.int .i64 (W-1))∧w=w':=by
 go_enter Tryz.func208,Tryz.ntmps208
 go_wp2
 go_ret
 exact⟨bP (by go_num),rfl⟩
set_option maxHeartbeats 400000 in
theorem mh(W:Int)(w:World)(h0:16≤W)(h1:W≤256):
  Calls Tryz.prog 226 #[.int .i64 W] w fun e w'=>e=.returned (.int .i64 (W-8))∧w=w':=by
 go_enter Tryz.func226,Tryz.ntmps226
 go_wp2_with fail
 refine(kR _ _ h0 h1).mono ?_
 rintro e w1 ⟨rfl,rfl⟩
 go_wp2_with fail
 go_ret
 exact⟨rfl,rfl⟩
set_option maxHeartbeats 400000 in
theorem oF(W n:Int)(w:World)(h0:16≤W)(h1:W≤256)(h:n≤W-8):
  Calls Tryz.prog 207 #[.int .i64 W,.int .i64 n] w fun e w'=>e=.returned (.bool true)∧w=w':=by
 go_enter Tryz.func207,Tryz.ntmps207
 go_wp2_with fail
 refine(mh _ _ h0 h1).mono ?_
 rintro e w1 ⟨rfl,rfl⟩
 go_wp2_with fail
 go_ret
 exact⟨aI (by first|rfl|(simp;done)|(simp;omega)),rfl⟩
set_option maxHeartbeats 400000 in
theorem ql(W n:Int)(w:World)(h0:16≤W)(h1:W≤256)(h:W-8<n):
  Calls Tryz.prog 207 #[.int .i64 W,.int .i64 n] w fun e w'=>e=.returned (.bool false)∧w=w':=by
 go_enter Tryz.func207,Tryz.ntmps207
 go_wp2_with fail
 refine(mh _ _ h0 h1).mono ?_
 rintro e w1 ⟨rfl,rfl⟩
 go_wp2_with fail
 go_ret
 exact⟨aI (by first|rfl|(simp;done)|(simp;omega)),rfl⟩
set_option maxHeartbeats 400000 in
theorem rC(W:Int)(w:World)(h0:16≤W)(h1:W≤256):
  Calls Tryz.prog 206 #[.int .i64 W] w fun e w'=>e=.returned (.int .i64 (fieldsI W))∧Below w.heap.size w w':=by
 have E:Hid (jU [W-8,W-1]=fieldsI W):=hid (jY (by omega) (by omega) (by omega) (by omega) (by have:=gV h0 h1;have:(W-8)*(W-1)=fieldsI W:=rfl;omega))
 go_enter Tryz.func206,Tryz.ntmps206
 go_wp2_with fail
 refine(kR _ _ h0 h1).mono ?_
 rintro e w1 ⟨rfl,rfl⟩
 go_wp2_with fail
 refine(iP _ _ h0 h1).mono ?_
 rintro e w1 ⟨rfl,rfl⟩
 go_wp2_with fail
 refine(jT (pV _ _ _ _ (by simp)) E.out).mono ?_
 rintro e w1 ⟨rfl,rfl⟩
 go_wp2_with fail
 go_ret
 exact⟨rfl,below_new _ _⟩
set_option maxHeartbeats 400000 in
theorem vI(W n:Int)(w:World)(h0:16≤W)(h1:W≤256)(h2:0≤n)(h3:n≤fieldsI W):
  Calls Tryz.prog 170 #[.int .i64 W,.int .i64 n] w fun e w'=>e=.returned (.int .i64 (bX W n))∧w=w':=by
 have hf:=gV h0 h1
 by_cases h:n≤W-8
 ·have E:=hid (ji h)
  go_enter Tryz.func170,Tryz.ntmps170
  go_wp2_with fail
  refine(oF _ _ _ h0 h1 h).mono ?_
  rintro e w1 ⟨rfl,rfl⟩
  go_wp2_with fail
  go_ret
  exact⟨bP (by rw[E.out]),rfl⟩
 ·have E:Hid (OD n (W-1)=bX W n):=hid (by rw[Ko h2 (by omega) (by omega) (by omega)];unfold bX;rw[if_neg h];rfl)
  go_enter Tryz.func170,Tryz.ntmps170
  go_wp2_with fail
  refine(ql _ _ _ h0 h1 (by omega)).mono ?_
  rintro e w1 ⟨rfl,rfl⟩
  go_wp2_with fail
  refine(iP _ _ h0 h1).mono ?_
  rintro e w1 ⟨rfl,rfl⟩
  go_wp2_with fail
  refine(Er _ _ _).mono ?_
  rintro e w1 ⟨rfl,rfl⟩
  go_wp2_with fail
  go_ret
  exact⟨bP (by rw[E.out]),rfl⟩
set_option maxHeartbeats 400000 in
theorem sM(l:Int)(w:World):
  Calls Tryz.prog 210 #[.int .i64 l] w fun e w'=>e=.returned (.int .i64 (rE l))∧w=w':=by
 by_cases h:l= -1
 ·subst h
  go_enter Tryz.func210,Tryz.ntmps210
  go_wp2
  go_ret
  exact⟨rfl,rfl⟩
 ·have E:Hid (rE l=1):=hid (by unfold rE;rw[if_neg h])
  have g:=ui h
  go_enter Tryz.func210,Tryz.ntmps210
  go_wp2
  go_ret
  exact⟨bP (by rw[E.out]),rfl⟩
set_option maxHeartbeats 400000 in
theorem sK(W l:Int)(w:World)(h0:16≤W)(h1:W≤256):
  Calls Tryz.prog 211 #[.int .i64 W,.int .i64 l] w fun e w'=>e=.returned (.int .i64 (qG W l))∧Below w.heap.size w w':=by
 go_enter Tryz.func211,Tryz.ntmps211
 go_wp2_with fail
 refine(iP _ _ h0 h1).mono ?_
 rintro e w1 ⟨rfl,rfl⟩
 go_wp2_with fail
 refine(pV _ _ _ _ (by simp)).mono ?_
 rintro e w1 ⟨rfl,rfl⟩
 go_wp2_with fail
 go_ret
 exact⟨rfl,below_new _ _⟩
set_option maxHeartbeats 400000 in
theorem mo(W:Int)(a:Option Addr)(len cap:Nat)(w:World)(h:zR W=false):
  Calls Tryz.prog 169 #[.int .i64 W,.slice a len cap] w fun e w'=>e=.returned (.tuple #[.int .i64 0,.int .i64 1])∧w=w':=by
 go_enter Tryz.func169,Tryz.ntmps169
 go_wp2_with fail
 refine(sN _ _).mono ?_
 rw[h]
 rintro e w1 ⟨rfl,rfl⟩
 go_wp2_with fail
 go_ret2
 exact⟨rfl,rfl⟩
def Ii(W:Int)(zs:List Int):Prop:=(∃j,j<zs.length∧nth zs j<0)∨fieldsI W<gW zs
def KG(W:Int)(zs:List Int)(w:World)(e:Ending)(w':World):Prop:=
 (Ii W zs→e=.returned (.tuple #[.int .i64 0,.int .i64 3]))∧(¬Ii W zs→e=.returned (.tuple #[.int .i64 (gW zs),.int .i64 0]))∧Below w.heap.size w w'
set_option maxHeartbeats 1000000 in
theorem mq(W:Int)(a:Option Addr)(cap:Nat)(zs:List Int)(w:World)(h0:16≤W)(h1:W≤256)(hrow:Row w .i64 a zs)(hlen:(zs.length:Int)≤9223372036854775807):
  Calls Tryz.prog 169 #[.int .i64 W,.slice a zs.length cap] w (KG W zs w):=by
 have E:=hid (tV h0 h1)
 go_enter Tryz.func169,Tryz.ntmps169
 go_wp2_with fail
 refine(sN _ _).mono ?_
 rw[E.out]
 rintro e w1 ⟨rfl,rfl⟩
 go_wp2_with fail
 go_loop [7,14] (fun _ i=>∃k:Nat,k≤zs.length∧i=.int .i64 k∧∀j,j<k→¬nth zs j<0) (fun _ i=>zs.length-(intOf i).toNat)
 case atStart=>exact⟨0,Nat.zero_le _,rfl,fun j h=>absurd h (Nat.not_lt_zero _)⟩
 case round=>
  obtain⟨k,hk,rfl,hnn⟩:=hrel
  have HN:=hid hnn
  clear hnn
  by_cases hlt:k<zs.length
  ·obtain⟨b,off,rfl,hb,hc⟩:=hrow k hlt
   by_cases hneg:nth zs k<0
   ·have HX:Hid (Ii W zs):=hid (Or.inl ⟨k,hlt,hneg⟩)
    go_wp2_with fail
    go_ret2
    exact⟨fun _=>rfl,fun h=>absurd HX.out h,Below.refl _ _⟩
   ·have HK:=hid hneg
    go_wp2_with fail
    go_round
    case rel=>exact⟨k+1,by omega,by go_num,fun j hj=>by
     by_cases e:j=k
     ·subst e;exact HK.out
     ·exact HN.out j (by omega)⟩
    case measure=>simp[intOf];omega
  ·have e:k=zs.length:=by omega
   have HS:Hid (¬∃j,j<zs.length∧nth zs j<0):=hid (fun⟨j,hj,hn⟩=>HN.out j (by omega) hn)
   have hal:=Ez zs
   have HA:Hid (∀w',Row w' .i64 a zs→Calls Tryz.prog 149 #[.slice a zs.length cap] w' fun e w''=>e=.returned (.int .i64 (gW zs))∧w'=w''):=hid (fun w' hr=>kY a cap zs w' hr hlen)
   have HR:=hid hrow
   have HF:Hid (∀w',Calls Tryz.prog 206 #[.int .i64 W] w' fun e w''=>e=.returned (.int .i64 (fieldsI W))∧Below w'.heap.size w' w''):=hid (fun w'=>rC W w' h0 h1)
   have hfb:=gV h0 h1
   clear e hrow
   by_cases hs:fieldsI W<gW zs
   ·have HX:Hid (Ii W zs):=hid (Or.inr hs)
    go_wp2_with fail
    refine(HA.out _ HR.out).mono ?_
    rintro e w1 ⟨rfl,rfl⟩
    go_wp2_with fail
    refine(HF.out _).mono ?_
    rintro e w1 ⟨rfl,hb⟩
    have HB:=hid hb
    clear hb
    go_wp2_with fail
    go_ret2
    exact⟨fun _=>rfl,fun h=>absurd HX.out h,HB.out⟩
   ·have HX:Hid (¬Ii W zs):=hid (fun h=>h.elim HS.out hs)
    go_wp2_with fail
    refine(HA.out _ HR.out).mono ?_
    rintro e w1 ⟨rfl,rfl⟩
    go_wp2_with fail
    refine(HF.out _).mono ?_
    rintro e w1 ⟨rfl,hb⟩
    have HB:=hid hb
    clear hb
    go_wp2_with fail
    go_ret2
    exact⟨fun h=>absurd h HX.out,fun _=>rfl,HB.out⟩
theorem gK(W n:Int)(w:World)(m:Nat)(hm:m=w.heap.size):
  Calls Tryz.prog 169 #[.int .i64 W,.slice (some ⟨m,0,none⟩) 1 1] (w.alloc (.cells #[.int .i64 n] 3)) fun e w'=>e=.returned (.tuple #[.int .i64 (if dN W n=0 then n else 0),.int .i64 (dN W n)])∧Below w.heap.size w w':=by
 subst hm
 cases hw:zR W with
 |false=>
  have e1:dN W n=1:=by unfold dN;rw[hw];rfl
  rw[e1]
  refine(mo W _ 1 1 _ hw).mono ?_
  rintro e w1 ⟨rfl,rfl⟩
  exact⟨rfl,below_new _ _⟩
 |true=>
  obtain⟨h0,h1⟩:=qC hw
  refine(mq W (some ⟨w.heap.size,0,none⟩) 1 [n] _ h0 h1 (Row.lit w .i64 [n] 3) (by simp)).mono ?_
  rintro e w1 ⟨hA,hB,hb⟩
  refine⟨?_,below_step (below_new _ _) hb⟩
  have hsum:gW [n]=cnt n:=by show cnt (0+cnt n)=cnt n;rw[Int.zero_add,gN (dS n).1 (dS n).2]
  have hf:=gV h0 h1
  by_cases hx:n<0∨fieldsI W<n
  ·have e1:dN W n=3:=by unfold dN;rw[if_pos hw,if_pos hx]
   rw[e1]
   apply hA
   rcases hx with hx|hx
   ·exact Or.inl ⟨0,by simp,hx⟩
   ·right;rw[hsum,nJ];omega
  ·have e1:dN W n=0:=by unfold dN;rw[if_pos hw,if_neg hx]
   rw[e1,if_pos rfl]
   rw[hB,hsum,gN (by omega) (by omega)]
   rintro(⟨j,hj,hn⟩|hx2)
   ·have:j=0:=by simp at hj;exact hj
    subst this
    have:n<0:=hn
    omega
   ·rw[hsum,nJ] at hx2;omega
theorem mi(W p d:Int)(w:World)(m:Nat)(hm:m=w.heap.size):
  Calls Tryz.prog 169 #[.int .i64 W,.slice (some ⟨m,0,none⟩) 2 2] (w.alloc (.cells #[.int .i64 p,.int .i64 d] 3)) fun e w'=>e=.returned (.tuple #[.int .i64 (if dB W p d=0 then p+d else 0),.int .i64 (dB W p d)])∧Below w.heap.size w w':=by
 subst hm
 cases hw:zR W with
 |false=>
  have e1:dB W p d=1:=by unfold dB;rw[hw];rfl
  rw[e1]
  refine(mo W _ 2 2 _ hw).mono ?_
  rintro e w1 ⟨rfl,rfl⟩
  exact⟨rfl,below_new _ _⟩
 |true=>
  obtain⟨h0,h1⟩:=qC hw
  refine(mq W (some ⟨w.heap.size,0,none⟩) 2 [p,d] _ h0 h1 (Row.lit w .i64 [p,d] 3) (by simp)).mono ?_
  rintro e w1 ⟨hA,hB,hb⟩
  refine⟨?_,below_step (below_new _ _) hb⟩
  have hsum:gW [p,d]=min 1125899906842624 (cnt p+cnt d):=by
   have:=dS p;have:=dS d
   rw[zX,nJ (cnt p+cnt d)];omega
  have cp:=nJ p;have cd:=nJ d
  have hf:=gV h0 h1
  by_cases hx:p<0∨d<0∨fieldsI W<p+d
  ·have e1:dB W p d=3:=by unfold dB;rw[if_pos hw,if_pos hx]
   rw[e1]
   apply hA
   rcases hx with hx|hx|hx
   ·exact Or.inl ⟨0,by simp,hx⟩
   ·exact Or.inl ⟨1,by simp,hx⟩
   ·by_cases hp:p<0
    ·exact Or.inl ⟨0,by simp,hp⟩
    ·by_cases hd:d<0
     ·exact Or.inl ⟨1,by simp,hd⟩
     ·right;rw[hsum];omega
  ·have e1:dB W p d=0:=by unfold dB;rw[if_pos hw,if_neg hx]
   rw[e1,if_pos rfl]
   have e2:gW [p,d]=p+d:=by rw[hsum];omega
   rw[hB,e2]
   rintro(⟨j,hj,hn⟩|hx2)
   ·have:j=0∨j=1:=by simp at hj;omega
    rcases this with rfl|rfl
    ·have:p<0:=hn
     omega
    ·have:d<0:=hn
     omega
   ·rw[e2] at hx2;omega
end Go.Proofs.YtofhdfjkhfkhiaaGreat.Pk
