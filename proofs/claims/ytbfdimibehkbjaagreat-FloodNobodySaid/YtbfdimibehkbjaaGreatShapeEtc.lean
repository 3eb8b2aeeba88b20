/-
  What the inner functions of package shape return.
-/
import Derived.Test.YtbfdimibehkbjaaGreatProg
import Derived.Test.YtbfdimibehkbjaaGreatBaseEtc
import Derived.Test.YtbfdimibehkbjaaGreatPlanFnEtc
import Derived.IntWalk
import Derived.Lib.MinMax
namespace Go.Proofs.YtbfdimibehkbjaaGreat.Pk
open Lib (hid)
open Go.RowKit
set_option linter.unusedVariables false
set_option linter.unusedSimpArgs false
set_option maxHeartbeats 400000 in
theorem uX(W:Int)(w:World):
  Calls Tryz.prog 207 #[.int .i64 W] w fun e w'=>e=.returned (.bool (AV W))∧w=w':=by
 by_cases h0:16≤W
 ·by_cases h1:W≤256
  ·have E:=hid (vQ h0 h1)
   go_enter Tryz.func207,Tryz.ntmps207
   go_wp2
   go_ret
   exact⟨aK E.out.symm,rfl⟩
  ·have E:=hid (DL (W:=W) (by omega))
   go_enter Tryz.func207,Tryz.ntmps207
   go_wp2
   go_ret
   exact⟨aK E.out.symm,rfl⟩
 ·have E:=hid (DL (W:=W) (by omega))
  go_enter Tryz.func207,Tryz.ntmps207
  go_wp2
  go_ret
  exact⟨aK E.out.symm,rfl⟩
set_option maxHeartbeats 400000 in
theorem mE(W:Int)(w:World)(h0:16≤W)(h1:W≤256):
  Calls Tryz.prog 228 #[.int .i64 W] w fun e w'=>e=.returned (.int .i64 (W-8))∧w=w':=by
 go_enter Tryz.func228,Tryz.ntmps228
 go_wp2
 go_ret
 exact⟨dz (by go_num),rfl⟩
set_option maxHeartbeats 400000 in
theorem jH(W:Int)(w:World)(h0:16≤W)(h1:W≤256):
  Calls Tryz.prog 210 #[.int .i64 W] w fun e w'=>e=.returned (.int .i64 (W-1))∧w=w':=by
 go_enter Tryz.func210,Tryz.ntmps210
 go_wp2
 go_ret
 exact⟨dz (by go_num),rfl⟩
set_option maxHeartbeats 400000 in
theorem nU(W:Int)(w:World)(h0:16≤W)(h1:W≤256):
  Calls Tryz.prog 229 #[.int .i64 W] w fun e w'=>e=.returned (.int .i64 (W-8))∧w=w':=by
 go_enter Tryz.func229,Tryz.ntmps229
 go_wp2_with fail
 refine(mE _ _ h0 h1).mono ?_
 rintro e w1 ⟨rfl,rfl⟩
 go_wp2_with fail
 go_ret
 exact⟨rfl,rfl⟩
set_option maxHeartbeats 400000 in
theorem qw(W n:Int)(w:World)(h0:16≤W)(h1:W≤256)(h:n≤W-8):
  Calls Tryz.prog 209 #[.int .i64 W,.int .i64 n] w fun e w'=>e=.returned (.bool true)∧w=w':=by
 go_enter Tryz.func209,Tryz.ntmps209
 go_wp2_with fail
 refine(nU _ _ h0 h1).mono ?_
 rintro e w1 ⟨rfl,rfl⟩
 go_wp2_with fail
 go_ret
 exact⟨aK (by first|rfl|(simp;done)|(simp;omega)),rfl⟩
set_option maxHeartbeats 400000 in
theorem si(W n:Int)(w:World)(h0:16≤W)(h1:W≤256)(h:W-8<n):
  Calls Tryz.prog 209 #[.int .i64 W,.int .i64 n] w fun e w'=>e=.returned (.bool false)∧w=w':=by
 go_enter Tryz.func209,Tryz.ntmps209
 go_wp2_with fail
 refine(nU _ _ h0 h1).mono ?_
 rintro e w1 ⟨rfl,rfl⟩
 go_wp2_with fail
 go_ret
 exact⟨aK (by first|rfl|(simp;done)|(simp;omega)),rfl⟩
set_option maxHeartbeats 400000 in
theorem tV(W:Int)(w:World)(h0:16≤W)(h1:W≤256):
  Calls Tryz.prog 208 #[.int .i64 W] w fun e w'=>e=.returned (.int .i64 (aZ W))∧Below w.heap.size w w':=by
 have E:Hid (lw [W-8,W-1]=aZ W):=hid (lG (by omega) (by omega) (by omega) (by omega) (by have:=iU h0 h1;have:(W-8)*(W-1)=aZ W:=rfl;omega))
 go_enter Tryz.func208,Tryz.ntmps208
 go_wp2_with fail
 refine(mE _ _ h0 h1).mono ?_
 rintro e w1 ⟨rfl,rfl⟩
 go_wp2_with fail
 refine(jH _ _ h0 h1).mono ?_
 rintro e w1 ⟨rfl,rfl⟩
 go_wp2_with fail
 refine(lu (rH _ _ _ _ (by simp)) E.out).mono ?_
 rintro e w1 ⟨rfl,rfl⟩
 go_wp2_with fail
 go_ret
 exact⟨rfl,ak _ _⟩
set_option maxHeartbeats 400000 in
theorem xm(W n:Int)(w:World)(h0:16≤W)(h1:W≤256)(h2:0≤n)(h3:n≤aZ W):
  Calls Tryz.prog 176 #[.int .i64 W,.int .i64 n] w fun e w'=>e=.returned (.int .i64 (dJ W n))∧w=w':=by
 have hf:=iU h0 h1
 by_cases h:n≤W-8
 ·have E:=hid (jZ h)
  go_enter Tryz.func176,Tryz.ntmps176
  go_wp2_with fail
  refine(qw _ _ _ h0 h1 h).mono ?_
  rintro e w1 ⟨rfl,rfl⟩
  go_wp2_with fail
  go_ret
  exact⟨dz (by rw[E.out]),rfl⟩
 ·have E:Hid (PU n (W-1)=dJ W n):=hid (by rw[LG h2 (by omega) (by omega) (by omega)];unfold dJ;rw[if_neg h];rfl)
  go_enter Tryz.func176,Tryz.ntmps176
  go_wp2_with fail
  refine(si _ _ _ h0 h1 (by omega)).mono ?_
  rintro e w1 ⟨rfl,rfl⟩
  go_wp2_with fail
  refine(jH _ _ h0 h1).mono ?_
  rintro e w1 ⟨rfl,rfl⟩
  go_wp2_with fail
  refine(Fv _ _ _).mono ?_
  rintro e w1 ⟨rfl,rfl⟩
  go_wp2_with fail
  go_ret
  exact⟨dz (by rw[E.out]),rfl⟩
set_option maxHeartbeats 400000 in
theorem uW(l:Int)(w:World):
  Calls Tryz.prog 212 #[.int .i64 l] w fun e w'=>e=.returned (.int .i64 (tY l))∧w=w':=by
 by_cases h:l= -1
 ·subst h
  go_enter Tryz.func212,Tryz.ntmps212
  go_wp2
  go_ret
  exact⟨rfl,rfl⟩
 ·have E:Hid (tY l=1):=hid (by unfold tY;rw[if_neg h])
  have g:=vV h
  go_enter Tryz.func212,Tryz.ntmps212
  go_wp2
  go_ret
  exact⟨dz (by rw[E.out]),rfl⟩
set_option maxHeartbeats 400000 in
theorem uV(W l:Int)(w:World)(h0:16≤W)(h1:W≤256):
  Calls Tryz.prog 213 #[.int .i64 W,.int .i64 l] w fun e w'=>e=.returned (.int .i64 (sO W l))∧Below w.heap.size w w':=by
 go_enter Tryz.func213,Tryz.ntmps213
 go_wp2_with fail
 refine(jH _ _ h0 h1).mono ?_
 rintro e w1 ⟨rfl,rfl⟩
 go_wp2_with fail
 refine(rH _ _ _ _ (by simp)).mono ?_
 rintro e w1 ⟨rfl,rfl⟩
 go_wp2_with fail
 go_ret
 exact⟨rfl,ak _ _⟩
set_option maxHeartbeats 400000 in
theorem nW(W:Int)(a:Option Addr)(len cap:Nat)(w:World)(h:AV W=false):
  Calls Tryz.prog 175 #[.int .i64 W,.slice a len cap] w fun e w'=>e=.returned (.tuple #[.int .i64 0,.int .i64 1])∧w=w':=by
 go_enter Tryz.func175,Tryz.ntmps175
 go_wp2_with fail
 refine(uX _ _).mono ?_
 rw[h]
 rintro e w1 ⟨rfl,rfl⟩
 go_wp2_with fail
 go_ret2
 exact⟨rfl,rfl⟩
def Js(W:Int)(zs:List Int):Prop:=(∃j,j<zs.length∧nth zs j<0)∨aZ W<iW zs
def LZ(W:Int)(zs:List Int)(w:World)(e:Ending)(w':World):Prop:=
 (Js W zs→e=.returned (.tuple #[.int .i64 0,.int .i64 3]))∧(¬Js W zs→e=.returned (.tuple #[.int .i64 (iW zs),.int .i64 0]))∧Below w.heap.size w w'
set_option maxHeartbeats 1000000 in
theorem nX(W:Int)(a:Option Addr)(cap:Nat)(zs:List Int)(w:World)(h0:16≤W)(h1:W≤256)(hrow:Row w .i64 a zs)(hlen:(zs.length:Int)≤9223372036854775807):
  Calls Tryz.prog 175 #[.int .i64 W,.slice a zs.length cap] w (LZ W zs w):=by
 have E:=hid (vQ h0 h1)
 go_enter Tryz.func175,Tryz.ntmps175
 go_wp2_with fail
 refine(uX _ _).mono ?_
 rw[E.out]
 rintro e w1 ⟨rfl,rfl⟩
 go_wp2_with fail
 go_loop [7,14] (fun _ i=>∃k:Nat,k≤zs.length∧i=.int .i64 k∧∀j,j<k→¬nth zs j<0) (fun _ i=>zs.length-(intOf i).toNat)
 case atStart=>exact⟨0,Nat.zero_le _,rfl,fun j h=>absurd h (Nat.not_lt_zero _)⟩
 case round=>
  obtain⟨k,hk,rfl,hnn⟩:=hrel
  have HN:=hid hnn
  clear hnn
  by_cases hlt:k<zs.length
  ·obtain⟨b,off,rfl,hb,hc⟩:=hrow k hlt
   by_cases hneg:nth zs k<0
   ·have HX:Hid (Js W zs):=hid (Or.inl ⟨k,hlt,hneg⟩)
    go_wp2_with fail
    go_ret2
    exact⟨fun _=>rfl,fun h=>absurd HX.out h,Below.refl _ _⟩
   ·have HK:=hid hneg
    go_wp2_with fail
    go_round
    case rel=>exact⟨k+1,by omega,by go_num,fun j hj=>by
     by_cases e:j=k
     ·subst e;exact HK.out
     ·exact HN.out j (by omega)⟩
    case measure=>simp[intOf];omega
  ·have e:k=zs.length:=by omega
   have HS:Hid (¬∃j,j<zs.length∧nth zs j<0):=hid (fun⟨j,hj,hn⟩=>HN.out j (by omega) hn)
   have hal:=FC zs
   have HA:Hid (∀w',Row w' .i64 a zs→Calls Tryz.prog 150 #[.slice a zs.length cap] w' fun e w''=>e=.returned (.int .i64 (iW zs))∧w'=w''):=hid (fun w' hr=>mQ a cap zs w' hr hlen)
   have HR:=hid hrow
   have HF:Hid (∀w',Calls Tryz.prog 208 #[.int .i64 W] w' fun e w''=>e=.returned (.int .i64 (aZ W))∧Below w'.heap.size w' w''):=hid (fun w'=>tV W w' h0 h1)
   have hfb:=iU h0 h1
   clear e hrow
   by_cases hs:aZ W<iW zs
   ·have HX:Hid (Js W zs):=hid (Or.inr hs)
    go_wp2_with fail
    refine(HA.out _ HR.out).mono ?_
    rintro e w1 ⟨rfl,rfl⟩
    go_wp2_with fail
    refine(HF.out _).mono ?_
    rintro e w1 ⟨rfl,hb⟩
    have HB:=hid hb
    clear hb
    go_wp2_with fail
    go_ret2
    exact⟨fun _=>rfl,fun h=>absurd HX.out h,HB.out⟩
   ·have HX:Hid (¬Js W zs):=hid (fun h=>h.elim HS.out hs)
    go_wp2_with fail
    refine(HA.out _ HR.out).mono ?_
    rintro e w1 ⟨rfl,rfl⟩
    go_wp2_with fail
    refine(HF.out _).mono ?_
    rintro e w1 ⟨rfl,hb⟩
    have HB:=hid hb
    clear hb
    go_wp2_with fail
    go_ret2
    exact⟨fun h=>absurd h HX.out,fun _=>rfl,HB.out⟩
theorem iE(W n:Int)(w:World)(m:Nat)(hm:m=w.heap.size):
  Calls Tryz.prog 175 #[.int .i64 W,.slice (some ⟨m,0,none⟩) 1 1] (w.alloc (.cells #[.int .i64 n] 3)) fun e w'=>e=.returned (.tuple #[.int .i64 (if fq W n=0 then n else 0),.int .i64 (fq W n)])∧Below w.heap.size w w':=by
 subst hm
 cases hw:AV W with
 |false=>
  have e1:fq W n=1:=by unfold fq;rw[hw];rfl
  rw[e1]
  refine(nW W _ 1 1 _ hw).mono ?_
  rintro e w1 ⟨rfl,rfl⟩
  exact⟨rfl,ak _ _⟩
 |true=>
  obtain⟨h0,h1⟩:=sJ hw
  refine(nX W (some ⟨w.heap.size,0,none⟩) 1 [n] _ h0 h1 (Row.lit w .i64 [n] 3) (by simp)).mono ?_
  rintro e w1 ⟨hA,hB,hb⟩
  refine⟨?_,below_step (ak _ _) hb⟩
  have hsum:iW [n]=cnt n:=by show cnt (0+cnt n)=cnt n;rw[Int.zero_add,iK (fA n).1 (fA n).2]
  have hf:=iU h0 h1
  by_cases hx:n<0∨aZ W<n
  ·have e1:fq W n=3:=by unfold fq;rw[if_pos hw,if_pos hx]
   rw[e1]
   apply hA
   rcases hx with hx|hx
   ·exact Or.inl ⟨0,by simp,hx⟩
   ·right;rw[hsum,pz];omega
  ·have e1:fq W n=0:=by unfold fq;rw[if_pos hw,if_neg hx]
   rw[e1,if_pos rfl]
   rw[hB,hsum,iK (by omega) (by omega)]
   rintro(⟨j,hj,hn⟩|hx2)
   ·have:j=0:=by simp at hj;exact hj
    subst this
    have:n<0:=hn
    omega
   ·rw[hsum,pz] at hx2;omega
theorem nV(W p d:Int)(w:World)(m:Nat)(hm:m=w.heap.size):
  Calls Tryz.prog 175 #[.int .i64 W,.slice (some ⟨m,0,none⟩) 2 2] (w.alloc (.cells #[.int .i64 p,.int .i64 d] 3)) fun e w'=>e=.returned (.tuple #[.int .i64 (if dR W p d=0 then p+d else 0),.int .i64 (dR W p d)])∧Below w.heap.size w w':=by
 subst hm
 cases hw:AV W with
 |false=>
  have e1:dR W p d=1:=by unfold dR;rw[hw];rfl
  rw[e1]
  refine(nW W _ 2 2 _ hw).mono ?_
  rintro e w1 ⟨rfl,rfl⟩
  exact⟨rfl,ak _ _⟩
 |true=>
  obtain⟨h0,h1⟩:=sJ hw
  refine(nX W (some ⟨w.heap.size,0,none⟩) 2 [p,d] _ h0 h1 (Row.lit w .i64 [p,d] 3) (by simp)).mono ?_
  rintro e w1 ⟨hA,hB,hb⟩
  refine⟨?_,below_step (ak _ _) hb⟩
  have hsum:iW [p,d]=min 1125899906842624 (cnt p+cnt d):=by
   have:=fA p;have:=fA d
   rw[Bb,pz (cnt p+cnt d)];omega
  have cp:=pz p;have cd:=pz d
  have hf:=iU h0 h1
  by_cases hx:p<0∨d<0∨aZ W<p+d
  ·have e1:dR W p d=3:=by unfold dR;rw[if_pos hw,if_pos hx]
   rw[e1]
   apply hA
   rcases hx with hx|hx|hx
   ·exact Or.inl ⟨0,by simp,hx⟩
   ·exact Or.inl ⟨1,by simp,hx⟩
   ·by_cases hp:p<0
    ·exact Or.inl ⟨0,by simp,hp⟩
    ·by_cases hd:d<0
     ·exact Or.inl ⟨1,by simp,hd⟩
     ·right;rw[hsum];omega
  ·have e1:dR W p d=0:=by unfold dR;rw[if_pos hw,if_neg hx]
   rw[e1,if_pos rfl]
   have e2:iW [p,d]=p+d:=by rw[hsum];omega
   rw[hB,e2]
   rintro(⟨j,hj,hn⟩|hx2)
   ·have:j=0∨j=1:=by simp at hj;omega
    rcases this with rfl|rfl
    ·have:p<0:=hn
     omega
    ·have:d<0:=hn
     omega
   ·rw[e2] at hx2;omega
end Go.Proofs.YtbfdimibehkbjaaGreat.Pk
