/-
  What the inner functions of package shape return.
-/
import Derived.Test.YtjmifnljckmimaaGreatProg
import Derived.Test.YtjmifnljckmimaaGreatBaseEtc
import Derived.Test.YtjmifnljckmimaaGreatPlanFnEtc
import Derived.IntWalk
import Derived.Lib.MinMax
namespace Go.Proofs.YtjmifnljckmimaaGreat.Pk
open Lib (hid)
open Go.RowKit
set_option linter.unusedVariables false
set_option linter.unusedSimpArgs false
set_option maxHeartbeats 400000 in
theorem uh(W:Int)(w:World):
  Calls Tryz.prog 190 #[.int .i64 W] w fun e w'=>e=.returned (.bool (Bq W))∧w=w':=by
 by_cases h0:16≤W
 ·by_cases h1:W≤256
  ·have E:=hid (uQ h0 h1)
   go_enter Tryz.func190,Tryz.ntmps190
   go_wp2
   go_ret
   exact⟨aH E.out.symm,rfl⟩
  ·have E:=hid (Et (W:=W) (by omega))
   go_enter Tryz.func190,Tryz.ntmps190
   go_wp2
   go_ret
   exact⟨aH E.out.symm,rfl⟩
 ·have E:=hid (Et (W:=W) (by omega))
  go_enter Tryz.func190,Tryz.ntmps190
  go_wp2
  go_ret
  exact⟨aH E.out.symm,rfl⟩
set_option maxHeartbeats 400000 in
theorem lH(W:Int)(w:World)(h0:16≤W)(h1:W≤256):
  Calls Tryz.prog 219 #[.int .i64 W] w fun e w'=>e=.returned (.int .i64 (W-8))∧w=w':=by
 go_enter Tryz.func219,Tryz.ntmps219
 go_wp2
 go_ret
 exact⟨bX (by go_num),rfl⟩
set_option maxHeartbeats 400000 in
theorem jg(W:Int)(w:World)(h0:16≤W)(h1:W≤256):
  Calls Tryz.prog 193 #[.int .i64 W] w fun e w'=>e=.returned (.int .i64 (W-1))∧w=w':=by
 go_enter Tryz.func193,Tryz.ntmps193
 go_wp2
 go_ret
 exact⟨bX (by go_num),rfl⟩
set_option maxHeartbeats 400000 in
theorem mX(W:Int)(w:World)(h0:16≤W)(h1:W≤256):
  Calls Tryz.prog 220 #[.int .i64 W] w fun e w'=>e=.returned (.int .i64 (W-8))∧w=w':=by
 go_enter Tryz.func220,Tryz.ntmps220
 go_wp2_with fail
 refine(lH _ _ h0 h1).mono ?_
 rintro e w1 ⟨rfl,rfl⟩
 go_wp2_with fail
 go_ret
 exact⟨rfl,rfl⟩
set_option maxHeartbeats 400000 in
theorem pM(W n:Int)(w:World)(h0:16≤W)(h1:W≤256)(h:n≤W-8):
  Calls Tryz.prog 192 #[.int .i64 W,.int .i64 n] w fun e w'=>e=.returned (.bool true)∧w=w':=by
 go_enter Tryz.func192,Tryz.ntmps192
 go_wp2_with fail
 refine(mX _ _ h0 h1).mono ?_
 rintro e w1 ⟨rfl,rfl⟩
 go_wp2_with fail
 go_ret
 exact⟨aH (by first|rfl|(simp;done)|(simp;omega)),rfl⟩
set_option maxHeartbeats 400000 in
theorem qZ(W n:Int)(w:World)(h0:16≤W)(h1:W≤256)(h:W-8<n):
  Calls Tryz.prog 192 #[.int .i64 W,.int .i64 n] w fun e w'=>e=.returned (.bool false)∧w=w':=by
 go_enter Tryz.func192,Tryz.ntmps192
 go_wp2_with fail
 refine(mX _ _ h0 h1).mono ?_
 rintro e w1 ⟨rfl,rfl⟩
 go_wp2_with fail
 go_ret
 exact⟨aH (by first|rfl|(simp;done)|(simp;omega)),rfl⟩
set_option maxHeartbeats 400000 in
theorem sH(W:Int)(w:World)(h0:16≤W)(h1:W≤256):
  Calls Tryz.prog 191 #[.int .i64 W] w fun e w'=>e=.returned (.int .i64 (fieldsI W))∧Below w.heap.size w w':=by
 have E:Hid (kz [W-8,W-1]=fieldsI W):=hid (kG (by omega) (by omega) (by omega) (by omega) (by have:=iq h0 h1;have:(W-8)*(W-1)=fieldsI W:=rfl;omega))
 go_enter Tryz.func191,Tryz.ntmps191
 go_wp2_with fail
 refine(lH _ _ h0 h1).mono ?_
 rintro e w1 ⟨rfl,rfl⟩
 go_wp2_with fail
 refine(jg _ _ h0 h1).mono ?_
 rintro e w1 ⟨rfl,rfl⟩
 go_wp2_with fail
 refine(ky (qI _ _ _ _ (by simp)) E.out).mono ?_
 rintro e w1 ⟨rfl,rfl⟩
 go_wp2_with fail
 go_ret
 exact⟨rfl,below_new _ _⟩
set_option maxHeartbeats 400000 in
theorem wF(W n:Int)(w:World)(h0:16≤W)(h1:W≤256)(h2:0≤n)(h3:n≤fieldsI W):
  Calls Tryz.prog 152 #[.int .i64 W,.int .i64 n] w fun e w'=>e=.returned (.int .i64 (cB W n))∧w=w':=by
 have hf:=iq h0 h1
 by_cases h:n≤W-8
 ·have E:=hid (jA h)
  go_enter Tryz.func152,Tryz.ntmps152
  go_wp2_with fail
  refine(pM _ _ _ h0 h1 h).mono ?_
  rintro e w1 ⟨rfl,rfl⟩
  go_wp2_with fail
  go_ret
  exact⟨bX (by rw[E.out]),rfl⟩
 ·have E:Hid (Qz n (W-1)=cB W n):=hid (by rw[Mr h2 (by omega) (by omega) (by omega)];unfold cB;rw[if_neg h];rfl)
  go_enter Tryz.func152,Tryz.ntmps152
  go_wp2_with fail
  refine(qZ _ _ _ h0 h1 (by omega)).mono ?_
  rintro e w1 ⟨rfl,rfl⟩
  go_wp2_with fail
  refine(jg _ _ h0 h1).mono ?_
  rintro e w1 ⟨rfl,rfl⟩
  go_wp2_with fail
  refine(Gd _ _ _).mono ?_
  rintro e w1 ⟨rfl,rfl⟩
  go_wp2_with fail
  go_ret
  exact⟨bX (by rw[E.out]),rfl⟩
set_option maxHeartbeats 400000 in
theorem ug(l:Int)(w:World):
  Calls Tryz.prog 195 #[.int .i64 l] w fun e w'=>e=.returned (.int .i64 (sJ l))∧w=w':=by
 by_cases h:l= -1
 ·subst h
  go_enter Tryz.func195,Tryz.ntmps195
  go_wp2
  go_ret
  exact⟨rfl,rfl⟩
 ·have E:Hid (sJ l=1):=hid (by unfold sJ;rw[if_neg h])
  have g:=uW h
  go_enter Tryz.func195,Tryz.ntmps195
  go_wp2
  go_ret
  exact⟨bX (by rw[E.out]),rfl⟩
set_option maxHeartbeats 400000 in
theorem uf(W l:Int)(w:World)(h0:16≤W)(h1:W≤256):
  Calls Tryz.prog 196 #[.int .i64 W,.int .i64 l] w fun e w'=>e=.returned (.int .i64 (rH W l))∧Below w.heap.size w w':=by
 go_enter Tryz.func196,Tryz.ntmps196
 go_wp2_with fail
 refine(jg _ _ h0 h1).mono ?_
 rintro e w1 ⟨rfl,rfl⟩
 go_wp2_with fail
 refine(qI _ _ _ _ (by simp)).mono ?_
 rintro e w1 ⟨rfl,rfl⟩
 go_wp2_with fail
 go_ret
 exact⟨rfl,below_new _ _⟩
set_option maxHeartbeats 400000 in
theorem mZ(W:Int)(a:Option Addr)(len cap:Nat)(w:World)(h:Bq W=false):
  Calls Tryz.prog 151 #[.int .i64 W,.slice a len cap] w fun e w'=>e=.returned (.tuple #[.int .i64 0,.int .i64 1])∧w=w':=by
 go_enter Tryz.func151,Tryz.ntmps151
 go_wp2_with fail
 refine(uh _ _).mono ?_
 rw[h]
 rintro e w1 ⟨rfl,rfl⟩
 go_wp2_with fail
 go_ret2
 exact⟨rfl,rfl⟩
def JP(W:Int)(zs:List Int):Prop:=(∃j,j<zs.length∧nth zs j<0)∨fieldsI W<iB zs
def MH(W:Int)(zs:List Int)(w:World)(e:Ending)(w':World):Prop:=
 (JP W zs→e=.returned (.tuple #[.int .i64 0,.int .i64 3]))∧(¬JP W zs→e=.returned (.tuple #[.int .i64 (iB zs),.int .i64 0]))∧Below w.heap.size w w'
set_option maxHeartbeats 1000000 in
theorem ni(W:Int)(a:Option Addr)(cap:Nat)(zs:List Int)(w:World)(h0:16≤W)(h1:W≤256)(hrow:Row w .i64 a zs)(hlen:(zs.length:Int)≤9223372036854775807):
  Calls Tryz.prog 151 #[.int .i64 W,.slice a zs.length cap] w (MH W zs w):=by
 have E:=hid (uQ h0 h1)
 go_enter Tryz.func151,Tryz.ntmps151
 go_wp2_with fail
 refine(uh _ _).mono ?_
 rw[E.out]
 rintro e w1 ⟨rfl,rfl⟩
 go_wp2_with fail
 go_loop [7,14] (fun _ i=>∃k:Nat,k≤zs.length∧i=.int .i64 k∧∀j,j<k→¬nth zs j<0) (fun _ i=>zs.length-(intOf i).toNat)
 case atStart=>exact⟨0,Nat.zero_le _,rfl,fun j h=>absurd h (Nat.not_lt_zero _)⟩
 case round=>
  obtain⟨k,hk,rfl,hnn⟩:=hrel
  have HN:=hid hnn
  clear hnn
  by_cases hlt:k<zs.length
  ·obtain⟨b,off,rfl,hb,hc⟩:=hrow k hlt
   by_cases hneg:nth zs k<0
   ·have HX:Hid (JP W zs):=hid (Or.inl ⟨k,hlt,hneg⟩)
    go_wp2_with fail
    go_ret2
    exact⟨fun _=>rfl,fun h=>absurd HX.out h,Below.refl _ _⟩
   ·have HK:=hid hneg
    go_wp2_with fail
    go_round
    case rel=>exact⟨k+1,by omega,by go_num,fun j hj=>by
     by_cases e:j=k
     ·subst e;exact HK.out
     ·exact HN.out j (by omega)⟩
    case measure=>simp[intOf];omega
  ·have e:k=zs.length:=by omega
   have HS:Hid (¬∃j,j<zs.length∧nth zs j<0):=hid (fun⟨j,hj,hn⟩=>HN.out j (by omega) hn)
   have hal:=Gm zs
   have HA:Hid (∀w',Row w' .i64 a zs→Calls Tryz.prog 160 #[.slice a zs.length cap] w' fun e w''=>e=.returned (.int .i64 (iB zs))∧w'=w''):=hid (fun w' hr=>lS a cap zs w' hr hlen)
   have HR:=hid hrow
   have HF:Hid (∀w',Calls Tryz.prog 191 #[.int .i64 W] w' fun e w''=>e=.returned (.int .i64 (fieldsI W))∧Below w'.heap.size w' w''):=hid (fun w'=>sH W w' h0 h1)
   have hfb:=iq h0 h1
   clear e hrow
   by_cases hs:fieldsI W<iB zs
   ·have HX:Hid (JP W zs):=hid (Or.inr hs)
    go_wp2_with fail
    refine(HA.out _ HR.out).mono ?_
    rintro e w1 ⟨rfl,rfl⟩
    go_wp2_with fail
    refine(HF.out _).mono ?_
    rintro e w1 ⟨rfl,hb⟩
    have HB:=hid hb
    clear hb
    go_wp2_with fail
    go_ret2
    exact⟨fun _=>rfl,fun h=>absurd HX.out h,HB.out⟩
   ·have HX:Hid (¬JP W zs):=hid (fun h=>h.elim HS.out hs)
    go_wp2_with fail
    refine(HA.out _ HR.out).mono ?_
    rintro e w1 ⟨rfl,rfl⟩
    go_wp2_with fail
    refine(HF.out _).mono ?_
    rintro e w1 ⟨rfl,hb⟩
    have HB:=hid hb
    clear hb
    go_wp2_with fail
    go_ret2
    exact⟨fun h=>absurd h HX.out,fun _=>rfl,HB.out⟩
theorem gV(W n:Int)(w:World)(m:Nat)(hm:m=w.heap.size):
  Calls Tryz.prog 151 #[.int .i64 W,.slice (some ⟨m,0,none⟩) 1 1] (w.alloc (.cells #[.int .i64 n] 3)) fun e w'=>e=.returned (.tuple #[.int .i64 (if eG W n=0 then n else 0),.int .i64 (eG W n)])∧Below w.heap.size w w':=by
 subst hm
 cases hw:Bq W with
 |false=>
  have e1:eG W n=1:=by unfold eG;rw[hw];rfl
  rw[e1]
  refine(mZ W _ 1 1 _ hw).mono ?_
  rintro e w1 ⟨rfl,rfl⟩
  exact⟨rfl,below_new _ _⟩
 |true=>
  obtain⟨h0,h1⟩:=rF hw
  refine(ni W (some ⟨w.heap.size,0,none⟩) 1 [n] _ h0 h1 (Row.lit w .i64 [n] 3) (by simp)).mono ?_
  rintro e w1 ⟨hA,hB,hb⟩
  refine⟨?_,below_step (below_new _ _) hb⟩
  have hsum:iB [n]=cnt n:=by show cnt (0+cnt n)=cnt n;rw[Int.zero_add,ib (eQ n).1 (eQ n).2]
  have hf:=iq h0 h1
  by_cases hx:n<0∨fieldsI W<n
  ·have e1:eG W n=3:=by unfold eG;rw[if_pos hw,if_pos hx]
   rw[e1]
   apply hA
   rcases hx with hx|hx
   ·exact Or.inl ⟨0,by simp,hx⟩
   ·right;rw[hsum,oF];omega
  ·have e1:eG W n=0:=by unfold eG;rw[if_pos hw,if_neg hx]
   rw[e1,if_pos rfl]
   rw[hB,hsum,ib (by omega) (by omega)]
   rintro(⟨j,hj,hn⟩|hx2)
   ·have:j=0:=by simp at hj;exact hj
    subst this
    have:n<0:=hn
    omega
   ·rw[hsum,oF] at hx2;omega
theorem mY(W p d:Int)(w:World)(m:Nat)(hm:m=w.heap.size):
  Calls Tryz.prog 151 #[.int .i64 W,.slice (some ⟨m,0,none⟩) 2 2] (w.alloc (.cells #[.int .i64 p,.int .i64 d] 3)) fun e w'=>e=.returned (.tuple #[.int .i64 (if dM W p d=0 then p+d else 0),.int .i64 (dM W p d)])∧Below w.heap.size w w':=by
 subst hm
 cases hw:Bq W with
 |false=>
  have e1:dM W p d=1:=by unfold dM;rw[hw];rfl
  rw[e1]
  refine(mZ W _ 2 2 _ hw).mono ?_
  rintro e w1 ⟨rfl,rfl⟩
  exact⟨rfl,below_new _ _⟩
 |true=>
  obtain⟨h0,h1⟩:=rF hw
  refine(ni W (some ⟨w.heap.size,0,none⟩) 2 [p,d] _ h0 h1 (Row.lit w .i64 [p,d] 3) (by simp)).mono ?_
  rintro e w1 ⟨hA,hB,hb⟩
  refine⟨?_,below_step (below_new _ _) hb⟩
  have hsum:iB [p,d]=min 1125899906842624 (cnt p+cnt d):=by
   have:=eQ p;have:=eQ d
   rw[BA,oF (cnt p+cnt d)];omega
  have cp:=oF p;have cd:=oF d
  have hf:=iq h0 h1
  by_cases hx:p<0∨d<0∨fieldsI W<p+d
  ·have e1:dM W p d=3:=by unfold dM;rw[if_pos hw,if_pos hx]
   rw[e1]
   apply hA
   rcases hx with hx|hx|hx
   ·exact Or.inl ⟨0,by simp,hx⟩
   ·exact Or.inl ⟨1,by simp,hx⟩
   ·by_cases hp:p<0
    ·exact Or.inl ⟨0,by simp,hp⟩
    ·by_cases hd:d<0
     ·exact Or.inl ⟨1,by simp,hd⟩
     ·right;rw[hsum];omega
  ·have e1:dM W p d=0:=by unfold dM;rw[if_pos hw,if_neg hx]
   rw[e1,if_pos rfl]
   have e2:iB [p,d]=p+d:=by rw[hsum];omega
   rw[hB,e2]
   rintro(⟨j,hj,hn⟩|hx2)
   ·have:j=0∨j=1:=by simp at hj;omega
    rcases this with rfl|rfl
    ·have:p<0:=hn
     omega
    ·have:d<0:=hn
     omega
   ·rw[e2] at hx2;omega
end Go.Proofs.YtjmifnljckmimaaGreat.Pk
