/-
  What the inner functions of package shape return.
-/
import Derived.Test.YtbhhfnlkpieebaaGreatProg
import Derived.Test.YtbhhfnlkpieebaaGreatBaseEtc
import Derived.Test.YtbhhfnlkpieebaaGreatPlanFnEtc
import Derived.IntWalk
import Derived.Lib.MinMax
namespace Go.Proofs.YtbhhfnlkpieebaaGreat.Pk
open Lib (hid)
open Go.RowKit
set_option linter.unusedVariables false
set_option linter.unusedSimpArgs false
set_option maxHeartbeats 400000 in
theorem sH(W:Int)(w:World):
  Calls Tryz.prog 201 #[.int .i64 W] w fun e w'=>e=.returned (.bool (sV W))∧w=w':=by
 by_cases h0:16≤W
 ·by_cases h1:W≤256
  ·have E:=hid (qF h0 h1)
   go_enter Tryz.func201,Tryz.ntmps201
   go_wp2
   go_ret
   exact⟨aj E.out.symm,rfl⟩
  ·have E:=hid (qG (W:=W) (by omega))
   go_enter Tryz.func201,Tryz.ntmps201
   go_wp2
   go_ret
   exact⟨aj E.out.symm,rfl⟩
 ·have E:=hid (qG (W:=W) (by omega))
  go_enter Tryz.func201,Tryz.ntmps201
  go_wp2
  go_ret
  exact⟨aj E.out.symm,rfl⟩
set_option maxHeartbeats 400000 in
theorem kP(W:Int)(w:World)(h0:16≤W)(h1:W≤256):
  Calls Tryz.prog 228 #[.int .i64 W] w fun e w'=>e=.returned (.int .i64 (W-8))∧w=w':=by
 go_enter Tryz.func228,Tryz.ntmps228
 go_wp2
 go_ret
 exact⟨aU (by go_num),rfl⟩
set_option maxHeartbeats 400000 in
theorem iG(W:Int)(w:World)(h0:16≤W)(h1:W≤256):
  Calls Tryz.prog 204 #[.int .i64 W] w fun e w'=>e=.returned (.int .i64 (W-1))∧w=w':=by
 go_enter Tryz.func204,Tryz.ntmps204
 go_wp2
 go_ret
 exact⟨aU (by go_num),rfl⟩
set_option maxHeartbeats 400000 in
theorem mG(W:Int)(w:World)(h0:16≤W)(h1:W≤256):
  Calls Tryz.prog 229 #[.int .i64 W] w fun e w'=>e=.returned (.int .i64 (W-8))∧w=w':=by
 go_enter Tryz.func229,Tryz.ntmps229
 go_wp2_with fail
 refine(kP _ _ h0 h1).mono ?_
 rintro e w1 ⟨rfl,rfl⟩
 go_wp2_with fail
 go_ret
 exact⟨rfl,rfl⟩
set_option maxHeartbeats 400000 in
theorem oZ(W n:Int)(w:World)(h0:16≤W)(h1:W≤256)(h:n≤W-8):
  Calls Tryz.prog 203 #[.int .i64 W,.int .i64 n] w fun e w'=>e=.returned (.bool true)∧w=w':=by
 go_enter Tryz.func203,Tryz.ntmps203
 go_wp2_with fail
 refine(mG _ _ h0 h1).mono ?_
 rintro e w1 ⟨rfl,rfl⟩
 go_wp2_with fail
 go_ret
 exact⟨aj (by first|rfl|(simp;done)|(simp;omega)),rfl⟩
set_option maxHeartbeats 400000 in
theorem qz(W n:Int)(w:World)(h0:16≤W)(h1:W≤256)(h:W-8<n):
  Calls Tryz.prog 203 #[.int .i64 W,.int .i64 n] w fun e w'=>e=.returned (.bool false)∧w=w':=by
 go_enter Tryz.func203,Tryz.ntmps203
 go_wp2_with fail
 refine(mG _ _ h0 h1).mono ?_
 rintro e w1 ⟨rfl,rfl⟩
 go_wp2_with fail
 go_ret
 exact⟨aj (by first|rfl|(simp;done)|(simp;omega)),rfl⟩
set_option maxHeartbeats 400000 in
theorem rD(W:Int)(w:World)(h0:16≤W)(h1:W≤256):
  Calls Tryz.prog 202 #[.int .i64 W] w fun e w'=>e=.returned (.int .i64 (au W))∧Below w.heap.size w w':=by
 have E:Hid (jO [W-8,W-1]=au W):=hid (jU (by omega) (by omega) (by omega) (by omega) (by have:=bQ h0 h1;have:(W-8)*(W-1)=au W:=rfl;omega))
 go_enter Tryz.func202,Tryz.ntmps202
 go_wp2_with fail
 refine(kP _ _ h0 h1).mono ?_
 rintro e w1 ⟨rfl,rfl⟩
 go_wp2_with fail
 refine(iG _ _ h0 h1).mono ?_
 rintro e w1 ⟨rfl,rfl⟩
 go_wp2_with fail
 refine(jN (qb _ _ _ _ (by simp)) E.out).mono ?_
 rintro e w1 ⟨rfl,rfl⟩
 go_wp2_with fail
 go_ret
 exact⟨rfl,below_new _ _⟩
set_option maxHeartbeats 400000 in
theorem vz(W n:Int)(w:World)(h0:16≤W)(h1:W≤256)(h2:0≤n)(h3:n≤au W):
  Calls Tryz.prog 166 #[.int .i64 W,.int .i64 n] w fun e w'=>e=.returned (.int .i64 (aN W n))∧w=w':=by
 have hf:=bQ h0 h1
 by_cases h:n≤W-8
 ·have E:=hid (fo h)
  go_enter Tryz.func166,Tryz.ntmps166
  go_wp2_with fail
  refine(oZ _ _ _ h0 h1 h).mono ?_
  rintro e w1 ⟨rfl,rfl⟩
  go_wp2_with fail
  go_ret
  exact⟨aU (by rw[E.out]),rfl⟩
 ·have E:Hid (OX n (W-1)=aN W n):=hid (by rw[KN h2 (by omega) (by omega) (by omega)];unfold aN;rw[if_neg h];rfl)
  go_enter Tryz.func166,Tryz.ntmps166
  go_wp2_with fail
  refine(qz _ _ _ h0 h1 (by omega)).mono ?_
  rintro e w1 ⟨rfl,rfl⟩
  go_wp2_with fail
  refine(iG _ _ h0 h1).mono ?_
  rintro e w1 ⟨rfl,rfl⟩
  go_wp2_with fail
  refine(Ew _ _ _).mono ?_
  rintro e w1 ⟨rfl,rfl⟩
  go_wp2_with fail
  go_ret
  exact⟨aU (by rw[E.out]),rfl⟩
set_option maxHeartbeats 400000 in
theorem sG(l:Int)(w:World):
  Calls Tryz.prog 220 #[.int .i64 l] w fun e w'=>e=.returned (.int .i64 (rF l))∧w=w':=by
 by_cases h:l= -1
 ·subst h
  go_enter Tryz.func220,Tryz.ntmps220
  go_wp2
  go_ret
  exact⟨rfl,rfl⟩
 ·have E:Hid (rF l=1):=hid (by unfold rF;rw[if_neg h])
  have g:=mX h
  go_enter Tryz.func220,Tryz.ntmps220
  go_wp2
  go_ret
  exact⟨aU (by rw[E.out]),rfl⟩
set_option maxHeartbeats 400000 in
theorem sF(W l:Int)(w:World)(h0:16≤W)(h1:W≤256):
  Calls Tryz.prog 221 #[.int .i64 W,.int .i64 l] w fun e w'=>e=.returned (.int .i64 (qJ W l))∧Below w.heap.size w w':=by
 go_enter Tryz.func221,Tryz.ntmps221
 go_wp2_with fail
 refine(iG _ _ h0 h1).mono ?_
 rintro e w1 ⟨rfl,rfl⟩
 go_wp2_with fail
 refine(qb _ _ _ _ (by simp)).mono ?_
 rintro e w1 ⟨rfl,rfl⟩
 go_wp2_with fail
 go_ret
 exact⟨rfl,below_new _ _⟩
set_option maxHeartbeats 400000 in
theorem mI(W:Int)(a:Option Addr)(len cap:Nat)(w:World)(h:sV W=false):
  Calls Tryz.prog 165 #[.int .i64 W,.slice a len cap] w fun e w'=>e=.returned (.tuple #[.int .i64 0,.int .i64 1])∧w=w':=by
 go_enter Tryz.func165,Tryz.ntmps165
 go_wp2_with fail
 refine(sH _ _).mono ?_
 rw[h]
 rintro e w1 ⟨rfl,rfl⟩
 go_wp2_with fail
 go_ret2
 exact⟨rfl,rfl⟩
def IB(W:Int)(zs:List Int):Prop:=(∃j,j<zs.length∧nth zs j<0)∨au W<gH zs
def Lj(W:Int)(zs:List Int)(w:World)(e:Ending)(w':World):Prop:=
 (IB W zs→e=.returned (.tuple #[.int .i64 0,.int .i64 3]))∧(¬IB W zs→e=.returned (.tuple #[.int .i64 (gH zs),.int .i64 0]))∧Below w.heap.size w w'
set_option maxHeartbeats 1000000 in
theorem mJ(W:Int)(a:Option Addr)(cap:Nat)(zs:List Int)(w:World)(h0:16≤W)(h1:W≤256)(hrow:Row w .i64 a zs)(hlen:(zs.length:Int)≤9223372036854775807):
  Calls Tryz.prog 165 #[.int .i64 W,.slice a zs.length cap] w (Lj W zs w):=by
 have E:=hid (qF h0 h1)
 go_enter Tryz.func165,Tryz.ntmps165
 go_wp2_with fail
 refine(sH _ _).mono ?_
 rw[E.out]
 rintro e w1 ⟨rfl,rfl⟩
 go_wp2_with fail
 go_loop [7,14] (fun _ i=>∃k:Nat,k≤zs.length∧i=.int .i64 k∧∀j,j<k→¬nth zs j<0) (fun _ i=>zs.length-(intOf i).toNat)
 case atStart=>exact⟨0,Nat.zero_le _,rfl,fun j h=>absurd h (Nat.not_lt_zero _)⟩
 case round=>
  obtain⟨k,hk,rfl,hnn⟩:=hrel
  have HN:=hid hnn
  clear hnn
  by_cases hlt:k<zs.length
  ·obtain⟨b,off,rfl,hb,hc⟩:=hrow k hlt
   by_cases hneg:nth zs k<0
   ·have HX:Hid (IB W zs):=hid (Or.inl ⟨k,hlt,hneg⟩)
    go_wp2_with fail
    go_ret2
    exact⟨fun _=>rfl,fun h=>absurd HX.out h,Below.refl _ _⟩
   ·have HK:=hid hneg
    go_wp2_with fail
    go_round
    case rel=>exact⟨k+1,by omega,by go_num,fun j hj=>by
     by_cases e:j=k
     ·subst e;exact HK.out
     ·exact HN.out j (by omega)⟩
    case measure=>simp[intOf];omega
  ·have e:k=zs.length:=by omega
   have HS:Hid (¬∃j,j<zs.length∧nth zs j<0):=hid (fun⟨j,hj,hn⟩=>HN.out j (by omega) hn)
   have hal:=EI zs
   have HA:Hid (∀w',Row w' .i64 a zs→Calls Tryz.prog 176 #[.slice a zs.length cap] w' fun e w''=>e=.returned (.int .i64 (gH zs))∧w'=w''):=hid (fun w' hr=>lg a cap zs w' hr hlen)
   have HR:=hid hrow
   have HF:Hid (∀w',Calls Tryz.prog 202 #[.int .i64 W] w' fun e w''=>e=.returned (.int .i64 (au W))∧Below w'.heap.size w' w''):=hid (fun w'=>rD W w' h0 h1)
   have hfb:=bQ h0 h1
   clear e hrow
   by_cases hs:au W<gH zs
   ·have HX:Hid (IB W zs):=hid (Or.inr hs)
    go_wp2_with fail
    refine(HA.out _ HR.out).mono ?_
    rintro e w1 ⟨rfl,rfl⟩
    go_wp2_with fail
    refine(HF.out _).mono ?_
    rintro e w1 ⟨rfl,hb⟩
    have HB:=hid hb
    clear hb
    go_wp2_with fail
    go_ret2
    exact⟨fun _=>rfl,fun h=>absurd HX.out h,HB.out⟩
   ·have HX:Hid (¬IB W zs):=hid (fun h=>h.elim HS.out hs)
    go_wp2_with fail
    refine(HA.out _ HR.out).mono ?_
    rintro e w1 ⟨rfl,rfl⟩
    go_wp2_with fail
    refine(HF.out _).mono ?_
    rintro e w1 ⟨rfl,hb⟩
    have HB:=hid hb
    clear hb
    go_wp2_with fail
    go_ret2
    exact⟨fun h=>absurd h HX.out,fun _=>rfl,HB.out⟩
theorem fQ(W n:Int)(w:World)(m:Nat)(hm:m=w.heap.size):
  Calls Tryz.prog 165 #[.int .i64 W,.slice (some ⟨m,0,none⟩) 1 1] (w.alloc (.cells #[.int .i64 n] 3)) fun e w'=>e=.returned (.tuple #[.int .i64 (if bi W n=0 then n else 0),.int .i64 (bi W n)])∧Below w.heap.size w w':=by
 subst hm
 cases hw:sV W with
 |false=>
  have e1:bi W n=1:=by unfold bi;rw[hw];rfl
  rw[e1]
  refine(mI W _ 1 1 _ hw).mono ?_
  rintro e w1 ⟨rfl,rfl⟩
  exact⟨rfl,below_new _ _⟩
 |true=>
  obtain⟨h0,h1⟩:=kU hw
  refine(mJ W (some ⟨w.heap.size,0,none⟩) 1 [n] _ h0 h1 (Row.lit w .i64 [n] 3) (by simp)).mono ?_
  rintro e w1 ⟨hA,hB,hb⟩
  refine⟨?_,below_step (below_new _ _) hb⟩
  have hsum:gH [n]=cnt n:=by show cnt (0+cnt n)=cnt n;rw[Int.zero_add,fZ (dF n).1 (dF n).2]
  have hf:=bQ h0 h1
  by_cases hx:n<0∨au W<n
  ·have e1:bi W n=3:=by unfold bi;rw[if_pos hw,if_pos hx]
   rw[e1]
   apply hA
   rcases hx with hx|hx
   ·exact Or.inl ⟨0,by simp,hx⟩
   ·right;rw[hsum,nR];omega
  ·have e1:bi W n=0:=by unfold bi;rw[if_pos hw,if_neg hx]
   rw[e1,if_pos rfl]
   rw[hB,hsum,fZ (by omega) (by omega)]
   rintro(⟨j,hj,hn⟩|hx2)
   ·have:j=0:=by simp at hj;exact hj
    subst this
    have:n<0:=hn
    omega
   ·rw[hsum,nR] at hx2;omega
theorem mH(W p d:Int)(w:World)(m:Nat)(hm:m=w.heap.size):
  Calls Tryz.prog 165 #[.int .i64 W,.slice (some ⟨m,0,none⟩) 2 2] (w.alloc (.cells #[.int .i64 p,.int .i64 d] 3)) fun e w'=>e=.returned (.tuple #[.int .i64 (if sizeE W p d=0 then p+d else 0),.int .i64 (sizeE W p d)])∧Below w.heap.size w w':=by
 subst hm
 cases hw:sV W with
 |false=>
  have e1:sizeE W p d=1:=by unfold sizeE;rw[hw];rfl
  rw[e1]
  refine(mI W _ 2 2 _ hw).mono ?_
  rintro e w1 ⟨rfl,rfl⟩
  exact⟨rfl,below_new _ _⟩
 |true=>
  obtain⟨h0,h1⟩:=kU hw
  refine(mJ W (some ⟨w.heap.size,0,none⟩) 2 [p,d] _ h0 h1 (Row.lit w .i64 [p,d] 3) (by simp)).mono ?_
  rintro e w1 ⟨hA,hB,hb⟩
  refine⟨?_,below_step (below_new _ _) hb⟩
  have hsum:gH [p,d]=min 1125899906842624 (cnt p+cnt d):=by
   have:=dF p;have:=dF d
   rw[zR,nR (cnt p+cnt d)];omega
  have cp:=nR p;have cd:=nR d
  have hf:=bQ h0 h1
  by_cases hx:p<0∨d<0∨au W<p+d
  ·have e1:sizeE W p d=3:=by unfold sizeE;rw[if_pos hw,if_pos hx]
   rw[e1]
   apply hA
   rcases hx with hx|hx|hx
   ·exact Or.inl ⟨0,by simp,hx⟩
   ·exact Or.inl ⟨1,by simp,hx⟩
   ·by_cases hp:p<0
    ·exact Or.inl ⟨0,by simp,hp⟩
    ·by_cases hd:d<0
     ·exact Or.inl ⟨1,by simp,hd⟩
     ·right;rw[hsum];omega
  ·have e1:sizeE W p d=0:=by unfold sizeE;rw[if_pos hw,if_neg hx]
   rw[e1,if_pos rfl]
   have e2:gH [p,d]=p+d:=by rw[hsum];omega
   rw[hB,e2]
   rintro(⟨j,hj,hn⟩|hx2)
   ·have:j=0∨j=1:=by simp at hj;omega
    rcases this with rfl|rfl
    ·have:p<0:=hn
     omega
    ·have:d<0:=hn
     omega
   ·rw[e2] at hx2;omega
end Go.Proofs.YtbhhfnlkpieebaaGreat.Pk
