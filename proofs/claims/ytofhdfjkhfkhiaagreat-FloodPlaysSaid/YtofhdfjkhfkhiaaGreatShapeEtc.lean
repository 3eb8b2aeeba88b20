/-
  What the inner functions of package shape return.
-/
import Derived.Test.YtofhdfjkhfkhiaaGreatProg
import Derived.Test.YtofhdfjkhfkhiaaGreatBaseEtc
import Derived.Test.YtofhdfjkhfkhiaaGreatPlanFnEtc
import Derived.IntWalk
import Derived.Lib.MinMax
namespace Go.Proofs.YtofhdfjkhfkhiaaGreat.Pk
open Lib (hid)
open Go.RowKit
set_option linter.unusedVariables false
set_option linter.unusedSimpArgs false
set_option maxHeartbeats 400000 in
theorem uf(W:Int)(w:World):
  Calls Tryz.prog 205 #[.int .i64 W] w fun e w'=>e=.returned (.bool (uw W))∧w=w':=by
 by_cases h0:16≤W
 ·by_cases h1:W≤256
  ·have E:=hid (rC h0 h1)
   go_enter Tryz.func205,Tryz.ntmps205
   go_wp2
   go_ret
   exact⟨ax E.out.symm,rfl⟩
  ·have E:=hid (rD (W:=W) (by omega))
   go_enter Tryz.func205,Tryz.ntmps205
   go_wp2
   go_ret
   exact⟨ax E.out.symm,rfl⟩
 ·have E:=hid (rD (W:=W) (by omega))
  go_enter Tryz.func205,Tryz.ntmps205
  go_wp2
  go_ret
  exact⟨ax E.out.symm,rfl⟩
set_option maxHeartbeats 400000 in
theorem lG(W:Int)(w:World)(h0:16≤W)(h1:W≤256):
  Calls Tryz.prog 225 #[.int .i64 W] w fun e w'=>e=.returned (.int .i64 (W-8))∧w=w':=by
 go_enter Tryz.func225,Tryz.ntmps225
 go_wp2
 go_ret
 exact⟨bi (by go_num),rfl⟩
set_option maxHeartbeats 400000 in
theorem jb(W:Int)(w:World)(h0:16≤W)(h1:W≤256):
  Calls Tryz.prog 208 #[.int .i64 W] w fun e w'=>e=.returned (.int .i64 (W-1))∧w=w':=by
 go_enter Tryz.func208,Tryz.ntmps208
 go_wp2
 go_ret
 exact⟨bi (by go_num),rfl⟩
set_option maxHeartbeats 400000 in
theorem nu(W:Int)(w:World)(h0:16≤W)(h1:W≤256):
  Calls Tryz.prog 226 #[.int .i64 W] w fun e w'=>e=.returned (.int .i64 (W-8))∧w=w':=by
 go_enter Tryz.func226,Tryz.ntmps226
 go_wp2_with fail
 refine(lG _ _ h0 h1).mono ?_
 rintro e w1 ⟨rfl,rfl⟩
 go_wp2_with fail
 go_ret
 exact⟨rfl,rfl⟩
set_option maxHeartbeats 400000 in
theorem pQ(W n:Int)(w:World)(h0:16≤W)(h1:W≤256)(h:n≤W-8):
  Calls Tryz.prog 207 #[.int .i64 W,.int .i64 n] w fun e w'=>e=.returned (.bool true)∧w=w':=by
 go_enter Tryz.func207,Tryz.ntmps207
 go_wp2_with fail
 refine(nu _ _ h0 h1).mono ?_
 rintro e w1 ⟨rfl,rfl⟩
 go_wp2_with fail
 go_ret
 exact⟨ax (by first|rfl|(simp;done)|(simp;omega)),rfl⟩
set_option maxHeartbeats 400000 in
theorem qY(W n:Int)(w:World)(h0:16≤W)(h1:W≤256)(h:W-8<n):
  Calls Tryz.prog 207 #[.int .i64 W,.int .i64 n] w fun e w'=>e=.returned (.bool false)∧w=w':=by
 go_enter Tryz.func207,Tryz.ntmps207
 go_wp2_with fail
 refine(nu _ _ h0 h1).mono ?_
 rintro e w1 ⟨rfl,rfl⟩
 go_wp2_with fail
 go_ret
 exact⟨ax (by first|rfl|(simp;done)|(simp;omega)),rfl⟩
set_option maxHeartbeats 400000 in
theorem sG(W:Int)(w:World)(h0:16≤W)(h1:W≤256):
  Calls Tryz.prog 206 #[.int .i64 W] w fun e w'=>e=.returned (.int .i64 (ay W))∧Below w.heap.size w w':=by
 have E:Hid (kF [W-8,W-1]=ay W):=hid (kL (by omega) (by omega) (by omega) (by omega) (by have:=dh h0 h1;have:(W-8)*(W-1)=ay W:=rfl;omega))
 go_enter Tryz.func206,Tryz.ntmps206
 go_wp2_with fail
 refine(lG _ _ h0 h1).mono ?_
 rintro e w1 ⟨rfl,rfl⟩
 go_wp2_with fail
 refine(jb _ _ h0 h1).mono ?_
 rintro e w1 ⟨rfl,rfl⟩
 go_wp2_with fail
 refine(kE (qE _ _ _ _ (by simp)) E.out).mono ?_
 rintro e w1 ⟨rfl,rfl⟩
 go_wp2_with fail
 go_ret
 exact⟨rfl,below_new _ _⟩
set_option maxHeartbeats 400000 in
theorem wI(W n:Int)(w:World)(h0:16≤W)(h1:W≤256)(h2:0≤n)(h3:n≤ay W):
  Calls Tryz.prog 170 #[.int .i64 W,.int .i64 n] w fun e w'=>e=.returned (.int .i64 (aR W n))∧w=w':=by
 have hf:=dh h0 h1
 by_cases h:n≤W-8
 ·have E:=hid (fQ h)
  go_enter Tryz.func170,Tryz.ntmps170
  go_wp2_with fail
  refine(pQ _ _ _ h0 h1 h).mono ?_
  rintro e w1 ⟨rfl,rfl⟩
  go_wp2_with fail
  go_ret
  exact⟨bi (by rw[E.out]),rfl⟩
 ·have E:Hid (Sy n (W-1)=aR W n):=hid (by rw[NI h2 (by omega) (by omega) (by omega)];unfold aR;rw[if_neg h];rfl)
  go_enter Tryz.func170,Tryz.ntmps170
  go_wp2_with fail
  refine(qY _ _ _ h0 h1 (by omega)).mono ?_
  rintro e w1 ⟨rfl,rfl⟩
  go_wp2_with fail
  refine(jb _ _ h0 h1).mono ?_
  rintro e w1 ⟨rfl,rfl⟩
  go_wp2_with fail
  refine(GJ _ _ _).mono ?_
  rintro e w1 ⟨rfl,rfl⟩
  go_wp2_with fail
  go_ret
  exact⟨bi (by rw[E.out]),rfl⟩
set_option maxHeartbeats 400000 in
theorem tZ(l:Int)(w:World):
  Calls Tryz.prog 210 #[.int .i64 l] w fun e w'=>e=.returned (.int .i64 (sI l))∧w=w':=by
 by_cases h:l= -1
 ·subst h
  go_enter Tryz.func210,Tryz.ntmps210
  go_wp2
  go_ret
  exact⟨rfl,rfl⟩
 ·have E:Hid (sI l=1):=hid (by unfold sI;rw[if_neg h])
  have g:=nH h
  go_enter Tryz.func210,Tryz.ntmps210
  go_wp2
  go_ret
  exact⟨bi (by rw[E.out]),rfl⟩
set_option maxHeartbeats 400000 in
theorem tY(W l:Int)(w:World)(h0:16≤W)(h1:W≤256):
  Calls Tryz.prog 211 #[.int .i64 W,.int .i64 l] w fun e w'=>e=.returned (.int .i64 (rF W l))∧Below w.heap.size w w':=by
 go_enter Tryz.func211,Tryz.ntmps211
 go_wp2_with fail
 refine(jb _ _ h0 h1).mono ?_
 rintro e w1 ⟨rfl,rfl⟩
 go_wp2_with fail
 refine(qE _ _ _ _ (by simp)).mono ?_
 rintro e w1 ⟨rfl,rfl⟩
 go_wp2_with fail
 go_ret
 exact⟨rfl,below_new _ _⟩
set_option maxHeartbeats 400000 in
theorem nz(W:Int)(a:Option Addr)(len cap:Nat)(w:World)(h:uw W=false):
  Calls Tryz.prog 169 #[.int .i64 W,.slice a len cap] w fun e w'=>e=.returned (.tuple #[.int .i64 0,.int .i64 1])∧w=w':=by
 go_enter Tryz.func169,Tryz.ntmps169
 go_wp2_with fail
 refine(uf _ _).mono ?_
 rw[h]
 rintro e w1 ⟨rfl,rfl⟩
 go_wp2_with fail
 go_ret2
 exact⟨rfl,rfl⟩
def KU(W:Int)(zs:List Int):Prop:=(∃j,j<zs.length∧nth zs j<0)∨ay W<gZ zs
def Oq(W:Int)(zs:List Int)(w:World)(e:Ending)(w':World):Prop:=
 (KU W zs→e=.returned (.tuple #[.int .i64 0,.int .i64 3]))∧(¬KU W zs→e=.returned (.tuple #[.int .i64 (gZ zs),.int .i64 0]))∧Below w.heap.size w w'
set_option maxHeartbeats 1000000 in
theorem nA(W:Int)(a:Option Addr)(cap:Nat)(zs:List Int)(w:World)(h0:16≤W)(h1:W≤256)(hrow:Row w .i64 a zs)(hlen:(zs.length:Int)≤9223372036854775807):
  Calls Tryz.prog 169 #[.int .i64 W,.slice a zs.length cap] w (Oq W zs w):=by
 have E:=hid (rC h0 h1)
 go_enter Tryz.func169,Tryz.ntmps169
 go_wp2_with fail
 refine(uf _ _).mono ?_
 rw[E.out]
 rintro e w1 ⟨rfl,rfl⟩
 go_wp2_with fail
 go_loop [7,14] (fun _ i=>∃k:Nat,k≤zs.length∧i=.int .i64 k∧∀j,j<k→¬nth zs j<0) (fun _ i=>zs.length-(intOf i).toNat)
 case atStart=>exact⟨0,Nat.zero_le _,rfl,fun j h=>absurd h (Nat.not_lt_zero _)⟩
 case round=>
  obtain⟨k,hk,rfl,hnn⟩:=hrel
  have HN:=hid hnn
  clear hnn
  by_cases hlt:k<zs.length
  ·obtain⟨b,off,rfl,hb,hc⟩:=hrow k hlt
   by_cases hneg:nth zs k<0
   ·have HX:Hid (KU W zs):=hid (Or.inl ⟨k,hlt,hneg⟩)
    go_wp2_with fail
    go_ret2
    exact⟨fun _=>rfl,fun h=>absurd HX.out h,Below.refl _ _⟩
   ·have HK:=hid hneg
    go_wp2_with fail
    go_round
    case rel=>exact⟨k+1,by omega,by go_num,fun j hj=>by
     by_cases e:j=k
     ·subst e;exact HK.out
     ·exact HN.out j (by omega)⟩
    case measure=>simp[intOf];omega
  ·have e:k=zs.length:=by omega
   have HS:Hid (¬∃j,j<zs.length∧nth zs j<0):=hid (fun⟨j,hj,hn⟩=>HN.out j (by omega) hn)
   have hal:=Hf zs
   have HA:Hid (∀w',Row w' .i64 a zs→Calls Tryz.prog 149 #[.slice a zs.length cap] w' fun e w''=>e=.returned (.int .i64 (gZ zs))∧w'=w''):=hid (fun w' hr=>lW a cap zs w' hr hlen)
   have HR:=hid hrow
   have HF:Hid (∀w',Calls Tryz.prog 206 #[.int .i64 W] w' fun e w''=>e=.returned (.int .i64 (ay W))∧Below w'.heap.size w' w''):=hid (fun w'=>sG W w' h0 h1)
   have hfb:=dh h0 h1
   clear e hrow
   by_cases hs:ay W<gZ zs
   ·have HX:Hid (KU W zs):=hid (Or.inr hs)
    go_wp2_with fail
    refine(HA.out _ HR.out).mono ?_
    rintro e w1 ⟨rfl,rfl⟩
    go_wp2_with fail
    refine(HF.out _).mono ?_
    rintro e w1 ⟨rfl,hb⟩
    have HB:=hid hb
    clear hb
    go_wp2_with fail
    go_ret2
    exact⟨fun _=>rfl,fun h=>absurd HX.out h,HB.out⟩
   ·have HX:Hid (¬KU W zs):=hid (fun h=>h.elim HS.out hs)
    go_wp2_with fail
    refine(HA.out _ HR.out).mono ?_
    rintro e w1 ⟨rfl,rfl⟩
    go_wp2_with fail
    refine(HF.out _).mono ?_
    rintro e w1 ⟨rfl,hb⟩
    have HB:=hid hb
    clear hb
    go_wp2_with fail
    go_ret2
    exact⟨fun h=>absurd h HX.out,fun _=>rfl,HB.out⟩
theorem gH(W n:Int)(w:World)(m:Nat)(hm:m=w.heap.size):
  Calls Tryz.prog 169 #[.int .i64 W,.slice (some ⟨m,0,none⟩) 1 1] (w.alloc (.cells #[.int .i64 n] 3)) fun e w'=>e=.returned (.tuple #[.int .i64 (if bC W n=0 then n else 0),.int .i64 (bC W n)])∧Below w.heap.size w w':=by
 subst hm
 cases hw:uw W with
 |false=>
  have e1:bC W n=1:=by unfold bC;rw[hw];rfl
  rw[e1]
  refine(nz W _ 1 1 _ hw).mono ?_
  rintro e w1 ⟨rfl,rfl⟩
  exact⟨rfl,below_new _ _⟩
 |true=>
  obtain⟨h0,h1⟩:=lN hw
  refine(nA W (some ⟨w.heap.size,0,none⟩) 1 [n] _ h0 h1 (Row.lit w .i64 [n] 3) (by simp)).mono ?_
  rintro e w1 ⟨hA,hB,hb⟩
  refine⟨?_,below_step (below_new _ _) hb⟩
  have hsum:gZ [n]=cnt n:=by show cnt (0+cnt n)=cnt n;rw[Int.zero_add,gL (dV n).1 (dV n).2]
  have hf:=dh h0 h1
  by_cases hx:n<0∨ay W<n
  ·have e1:bC W n=3:=by unfold bC;rw[if_pos hw,if_pos hx]
   rw[e1]
   apply hA
   rcases hx with hx|hx
   ·exact Or.inl ⟨0,by simp,hx⟩
   ·right;rw[hsum,ow];omega
  ·have e1:bC W n=0:=by unfold bC;rw[if_pos hw,if_neg hx]
   rw[e1,if_pos rfl]
   rw[hB,hsum,gL (by omega) (by omega)]
   rintro(⟨j,hj,hn⟩|hx2)
   ·have:j=0:=by simp at hj;exact hj
    subst this
    have:n<0:=hn
    omega
   ·rw[hsum,ow] at hx2;omega
theorem ny(W p d:Int)(w:World)(m:Nat)(hm:m=w.heap.size):
  Calls Tryz.prog 169 #[.int .i64 W,.slice (some ⟨m,0,none⟩) 2 2] (w.alloc (.cells #[.int .i64 p,.int .i64 d] 3)) fun e w'=>e=.returned (.tuple #[.int .i64 (if aW W p d=0 then p+d else 0),.int .i64 (aW W p d)])∧Below w.heap.size w w':=by
 subst hm
 cases hw:uw W with
 |false=>
  have e1:aW W p d=1:=by unfold aW;rw[hw];rfl
  rw[e1]
  refine(nz W _ 2 2 _ hw).mono ?_
  rintro e w1 ⟨rfl,rfl⟩
  exact⟨rfl,below_new _ _⟩
 |true=>
  obtain⟨h0,h1⟩:=lN hw
  refine(nA W (some ⟨w.heap.size,0,none⟩) 2 [p,d] _ h0 h1 (Row.lit w .i64 [p,d] 3) (by simp)).mono ?_
  rintro e w1 ⟨hA,hB,hb⟩
  refine⟨?_,below_step (below_new _ _) hb⟩
  have hsum:gZ [p,d]=min 1125899906842624 (cnt p+cnt d):=by
   have:=dV p;have:=dV d
   rw[BF,ow (cnt p+cnt d)];omega
  have cp:=ow p;have cd:=ow d
  have hf:=dh h0 h1
  by_cases hx:p<0∨d<0∨ay W<p+d
  ·have e1:aW W p d=3:=by unfold aW;rw[if_pos hw,if_pos hx]
   rw[e1]
   apply hA
   rcases hx with hx|hx|hx
   ·exact Or.inl ⟨0,by simp,hx⟩
   ·exact Or.inl ⟨1,by simp,hx⟩
   ·by_cases hp:p<0
    ·exact Or.inl ⟨0,by simp,hp⟩
    ·by_cases hd:d<0
     ·exact Or.inl ⟨1,by simp,hd⟩
     ·right;rw[hsum];omega
  ·have e1:aW W p d=0:=by unfold aW;rw[if_pos hw,if_neg hx]
   rw[e1,if_pos rfl]
   have e2:gZ [p,d]=p+d:=by rw[hsum];omega
   rw[hB,e2]
   rintro(⟨j,hj,hn⟩|hx2)
   ·have:j=0∨j=1:=by simp at hj;omega
    rcases this with rfl|rfl
    ·have:p<0:=hn
     omega
    ·have:d<0:=hn
     omega
   ·rw[e2] at hx2;omega
end Go.Proofs.YtofhdfjkhfkhiaaGreat.Pk
