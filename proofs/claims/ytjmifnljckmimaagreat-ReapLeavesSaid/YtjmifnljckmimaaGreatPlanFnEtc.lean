/-
  Ratio: What the functions of package ratio return, and the document's.
  Plan: What the functions of package plan return.
  PlanOf: What plan.Of returns.
  PlanNums: plan.Of with its numbers; plan.Pause; the document's May and Pause; the chapter's example.
-/
import Derived.Test.YtjmifnljckmimaaGreatProg
import Derived.Test.YtjmifnljckmimaaGreatBaseEtc
import Derived.IntWalk
import Derived.Test.YtjmifnljckmimaaGreatTameEtc
import Derived.Outline
import Derived.Lib.SmallJoins
namespace Go.Proofs.YtjmifnljckmimaaGreat.Pk
open Lib (hid)
open Go.RowKit
set_option linter.unusedVariables false
set_option linter.unusedSimpArgs false
set_option maxHeartbeats 400000 in
theorem yB(n lo hi:Int)(w:World):
  Calls Tryz.prog 221 #[.int .i64 n,.int .i64 lo,.int .i64 hi] w fun e w'=>e=.returned (.int .i64 (jS n lo hi))∧w=w':=by
 by_cases h1:hi<n
 ·go_enter Tryz.func221,Tryz.ntmps221
  go_wp2
  go_ret
  exact⟨bX (by unfold jS;rw[if_pos h1]),rfl⟩
 ·by_cases h2:n<lo
  ·go_enter Tryz.func221,Tryz.ntmps221
   go_wp2
   go_ret
   exact⟨bX (by unfold jS;rw[if_neg (by omega),if_pos (by omega)]),rfl⟩
  ·go_enter Tryz.func221,Tryz.ntmps221
   go_wp2
   go_ret
   exact⟨bX (by unfold jS;rw[if_neg (by omega),if_neg (by omega)]),rfl⟩
set_option maxHeartbeats 400000 in
theorem il(n:Int)(w:World):
  Calls Tryz.prog 198 #[.int .i64 n] w fun e w'=>e=.returned (.int .i64 (cnt n))∧w=w':=by
 go_enter Tryz.func198,Tryz.ntmps198
 go_wp2_with fail
 refine(yB _ _ _ _).mono ?_
 rintro e w1 ⟨rfl,rfl⟩
 go_wp2_with fail
 go_ret
 exact⟨rfl,rfl⟩
set_option maxHeartbeats 400000 in
theorem tu(n:Int)(w:World):
  Calls Tryz.prog 200 #[.int .i64 n] w fun e w'=>e=.returned (.int .i64 (JC n))∧w=w':=by
 have hb:=eQ n
 by_cases h:cnt n<1
 all_goals
  go_enter Tryz.func200,Tryz.ntmps200
  go_wp2_with fail
  refine(il _ _).mono ?_
  rintro e w1 ⟨rfl,rfl⟩
  go_wp2_with fail
  go_ret
  exact⟨bX (by rw[ML];omega),rfl⟩
set_option maxHeartbeats 400000 in
theorem Jn(a b:Int)(w:World)(ha:0≤a)(ha2:a≤1125899906842624)(hb:0≤b)(hb2:b≤1125899906842624):
  Calls Tryz.prog 199 #[.int .i64 a,.int .i64 b] w fun e w'=>e=.returned (.int .i64 (iN a b))∧w=w':=by
 by_cases h0:0<b
 ·by_cases h1:1125899906842624/b<a
  ·go_enter Tryz.func199,Tryz.ntmps199
   go_wp2
   go_ret
   exact⟨bX (by unfold iN;rw[if_pos ⟨h0,h1⟩]),rfl⟩
  ·have e:iN a b=a*b:=by unfold iN;rw[if_neg (fun h=>h1 h.2)]
   have h2:=Mg ha hb ha2 hb2
   rw[e] at h2
   have E:=hid e
   clear e
   go_enter Tryz.func199,Tryz.ntmps199
   go_wp2
   go_ret
   exact⟨bX (by rw[E.out]),rfl⟩
 ·have h1:b=0:=by omega
  subst h1
  go_enter Tryz.func199,Tryz.ntmps199
  go_wp2
  go_ret
  exact⟨bX (by unfold iN;rw[if_neg (by omega)];simp),rfl⟩
set_option maxHeartbeats 400000 in
theorem lS(a:Option Addr)(cap:Nat)(zs:List Int)(w:World)(hrow:Row w .i64 a zs)(hlen:(zs.length:Int)≤9223372036854775807):
  Calls Tryz.prog 160 #[.slice a zs.length cap] w fun e w'=>e=.returned (.int .i64 (iB zs))∧w=w':=by
 go_enter Tryz.func160,Tryz.ntmps160
 go_wp2
 go_loop [3,8] (fun t i=>∃k:Nat,k≤zs.length∧i=.int .i64 k∧t=.int .i64 (pu zs k)) (fun _ i=>zs.length-(intOf i).toNat)
 case atStart=>exact⟨0,Nat.zero_le _,rfl,rfl⟩
 case round=>
  obtain⟨k,hk,rfl,rfl⟩:=hrel
  have h1:=JS zs k
  have h2:=eQ (nth zs k)
  by_cases hlt:k<zs.length
  ·obtain⟨b,off,rfl,hb,hc⟩:=hrow k hlt
   have HS:=hid (uU hlt)
   go_wp2_with fail
   refine(il _ _).mono ?_
   rintro e w1 ⟨rfl,rfl⟩
   go_wp2_with fail
   refine(il _ _).mono ?_
   rintro e w1 ⟨rfl,rfl⟩
   go_wp2_with fail
   go_round
   case rel=>exact⟨k+1,by omega,by go_num,by rw[HS.out]⟩
   case measure=>simp[intOf];omega
  ·have e:k=zs.length:=by omega
   have HE:Hid (pu zs k=iB zs):=by rw[e,yu];exact rfl
   clear e
   go_wp2
   go_ret
   exact⟨bX HE.out,rfl⟩
set_option maxHeartbeats 400000 in
theorem mh(a:Option Addr)(cap:Nat)(zs:List Int)(w:World)(hrow:Row w .i64 a zs)(hlen:(zs.length:Int)≤9223372036854775807):
  Calls Tryz.prog 161 #[.slice a zs.length cap] w fun e w'=>e=.returned (.int .i64 (kz zs))∧w=w':=by
 go_enter Tryz.func161,Tryz.ntmps161
 go_wp2
 go_loop [3,8] (fun t i=>∃k:Nat,k≤zs.length∧i=.int .i64 k∧t=.int .i64 (pI zs k)) (fun _ i=>zs.length-(intOf i).toNat)
 case atStart=>exact⟨0,Nat.zero_le _,rfl,rfl⟩
 case round=>
  obtain⟨k,hk,rfl,rfl⟩:=hrel
  have h1:=Lb zs k
  have h2:=eQ (nth zs k)
  by_cases hlt:k<zs.length
  ·obtain⟨b,off,rfl,hb,hc⟩:=hrow k hlt
   have HS:=hid (vR hlt)
   go_wp2_with fail
   refine(il _ _).mono ?_
   rintro e w1 ⟨rfl,rfl⟩
   go_wp2_with fail
   refine(Jn _ _ _ h1.1 h1.2 h2.1 h2.2).mono ?_
   rintro e w1 ⟨rfl,rfl⟩
   go_wp2_with fail
   go_round
   case rel=>exact⟨k+1,by omega,by go_num,by rw[HS.out]⟩
   case measure=>simp[intOf];omega
  ·have e:k=zs.length:=by omega
   have HE:Hid (pI zs k=kz zs):=by rw[e,yO];exact rfl
   clear e
   go_wp2
   go_ret
   exact⟨bX HE.out,rfl⟩
set_option maxHeartbeats 400000 in
theorem Kl(a b:Int)(w:World):
  Calls Tryz.prog 194 #[.int .i64 a,.int .i64 b] w fun e w'=>e=.returned (.int .i64 (Kk a b))∧w=w':=by
 have h1:=eQ a
 have h2:=Kc b
 go_enter Tryz.func194,Tryz.ntmps194
 go_wp2_with (first|(go_at_call 198;refine(il _ _).mono ?_;rintro e w' ⟨rfl,rfl⟩)|(go_at_call 200;refine(tu _ _).mono ?_;rintro e w' ⟨rfl,rfl⟩))
 go_ret
 exact⟨bX rfl,rfl⟩
set_option maxHeartbeats 400000 in
theorem Gd(a b:Int)(w:World):
  Calls Tryz.prog 162 #[.int .i64 a,.int .i64 b] w fun e w'=>e=.returned (.int .i64 (Qz a b))∧w=w':=by
 have h1:=eQ a
 have h2:=Kc b
 go_enter Tryz.func162,Tryz.ntmps162
 go_wp2_with (first|(go_at_call 198;refine(il _ _).mono ?_;rintro e w' ⟨rfl,rfl⟩)|(go_at_call 200;refine(tu _ _).mono ?_;rintro e w' ⟨rfl,rfl⟩))
 go_ret
 exact⟨bX rfl,rfl⟩
theorem uW{a b:Int}(h:a≠b):(a==b)=false:=by rw[beq_eq_false_iff_ne];exact h
theorem ky{P:Program}{f:FuncId}{args:Array Value}{w:World}{a b:Int}(h:Calls P f args w fun e w'=>e=.returned (.int .i64 a)∧w=w')(hab:a=b):
  Calls P f args w fun e w'=>e=.returned (.int .i64 b)∧w=w':=hab▸h
theorem qI(x y:Int)(w:World)(m:Nat)(h:m=w.heap.size):
  Calls Tryz.prog 161 #[.slice (some ⟨m,0,none⟩) 2 2] (w.alloc (.cells #[.int .i64 x,.int .i64 y] 3)) fun e w'=>e=.returned (.int .i64 (kz [x,y]))∧w.alloc (.cells #[.int .i64 x,.int .i64 y] 3)=w':=by
 subst h
 exact mh (some ⟨w.heap.size,0,none⟩) 2 [x,y] _ (Row.lit w .i64 [x,y] 3) (by simp)
theorem Bw(x y:Int)(w:World)(m:Nat)(h:m=w.heap.size):
  Calls Tryz.prog 160 #[.slice (some ⟨m,0,none⟩) 2 2] (w.alloc (.cells #[.int .i64 x,.int .i64 y] 3)) fun e w'=>e=.returned (.int .i64 (iB [x,y]))∧w.alloc (.cells #[.int .i64 x,.int .i64 y] 3)=w':=by
 subst h
 exact lS (some ⟨w.heap.size,0,none⟩) 2 [x,y] _ (Row.lit w .i64 [x,y] 3) (by simp)
set_option maxHeartbeats 400000 in
theorem mO(n lo hi:Int)(w:World)(h0:lo≤n)(h1:n≤hi):
  Calls Tryz.prog 197 #[.int .i64 n,.int .i64 lo,.int .i64 hi] w fun e w'=>e=.returned (.bool true)∧w=w':=by
 have E:=hid (Kg h0 h1)
 go_enter Tryz.func197,Tryz.ntmps197
 go_wp2_with fail
 refine(ky (yB _ _ _ _) E.out).mono ?_
 rintro e w1 ⟨rfl,rfl⟩
 go_wp2_with fail
 go_ret
 exact⟨aH (by simp),rfl⟩
set_option maxHeartbeats 1000000 in
theorem Io(N W R K:Int)(w:World)(h:May N W R K):
  Calls Tryz.prog 159 #[.agg #[.int .i64 N,.int .i64 W,.int .i64 R,.int .i64 K]] w fun e w'=>e=.returned (.int .i64 0)∧Below w.heap.size w w':=by
 have hb:=GN h
 have E:Hid (kz [N,W]=N*W):=hid (kG (by have:=h.n0;omega) (by have:=h.w0;omega) (by have:=h.n1;omega) (by have:=h.w1;omega) (by omega))
 have hle:N*W≤4194304:=hb.2
 generalize N*W=p at*
 obtain⟨n0,n1,w0,w1,r0,r1,k0,k1,_⟩:=h
 clear hb
 go_enter Tryz.func159,Tryz.ntmps159
 go_wp2_with fail
 refine(mO _ _ _ _ n0 n1).mono ?_
 rintro e w1 ⟨rfl,rfl⟩
 go_wp2_with fail
 refine(mO _ _ _ _ w0 w1).mono ?_
 rintro e w1 ⟨rfl,rfl⟩
 go_wp2_with fail
 refine(mO _ _ _ _ r0 r1).mono ?_
 rintro e w1 ⟨rfl,rfl⟩
 go_wp2_with fail
 refine(mO _ _ _ _ k0 k1).mono ?_
 rintro e w1 ⟨rfl,rfl⟩
 go_wp2_with fail
 refine(ky (qI _ _ _ _ (by simp)) E.out).mono ?_
 rintro e w1 ⟨rfl,rfl⟩
 go_wp2_with fail
 go_ret
 exact⟨rfl,(below_new _ _).alloc (by simp) _⟩
set_option maxRecDepth 100000 in
set_option maxHeartbeats 4000000 in
theorem NC(N W R K wp1 d d3 ep nw words fields u1 u2 b2 lag e2 s1 u3 settle:Int)(w:World)(HX:Hid (May N W R K))(w0:16≤W)(w1b:W≤256)
  (E1:Hid (iB [W-8,1]=W-7)) (E2:Hid (iB [W,1]=wp1)) (E3:Hid (kz [N,wp1]=d)) (E4:Hid (kz [3,d]=d3)) (E5:Hid (iB [d3,4]=ep)) (E6:Hid (kz [N,W]=nw)) (E7:Hid (iB [24,R,nw]=words))
  (E8:Hid (kz [W-8,W-1]=fields)) (E9:Hid (Qz ep K=u1)) (E10:Hid (kz [2,u1]=u2)) (E11:Hid (kz [2,W-7]=b2)) (E12:Hid (iB [u2,b2]=lag)) (E13:Hid (kz [2,ep]=e2)) (E14:Hid (iB [e2,d]=s1)) (E15:Hid (Qz s1 K=u3)) (E16:Hid (iB [u3,2]=settle)):
  Calls Tryz.prog 90 #[.agg #[.int .i64 N,.int .i64 W,.int .i64 R,.int .i64 K]] w fun e w'=>e=.returned (.tuple #[.agg #[.int .i64 words,.int .i64 (W-8),.int .i64 (W-7),.int .i64 fields,.int .i64 ep,.int .i64 d,.int .i64 lag,.int .i64 settle],.int .i64 0])∧Below w.heap.size w w':=by
 go_enter Tryz.func90,Tryz.ntmps90
 go_wp2_with fail
 refine(Io _ _ _ _ _ HX.out).mono ?_
 rintro e w1 ⟨rfl,hb⟩
 obtain⟨hc,hf⟩:=Gp hb
 have hz:w.heap.size+1<w1.heap.size:=by have:=hb.size;simp at this;omega
 have HB:=hid hb
 clear hb
 go_wp2_with fail
 refine(ky (Bw _ _ _ _ (by simp)) E1.out).mono ?_
 rintro e w2 ⟨rfl,rfl⟩
 go_wp2_with fail
 have HB2:=hid (HB.out.trans ((below_new w1 (.cells #[.int .i64 (W-8),.int .i64 1] 3)).mono HB.out.size))
 clear HB hc hf
 have c0:=fun w' (hC:Below _ _ w')=>(((HB2.out.trans (Below.mono hC HB2.out.size)).cell (p:=⟨w.heap.size,0,none⟩) (by simp;omega)).trans (show _=some (.int .i64 N) by go_simp))
 have c1:=fun w' (hC:Below _ _ w')=>(((HB2.out.trans (Below.mono hC HB2.out.size)).cell (p:=⟨w.heap.size,1,none⟩) (by simp;omega)).trans (show _=some (.int .i64 W) by go_simp))
 have c2:=fun w' (hC:Below _ _ w')=>(((HB2.out.trans (Below.mono hC HB2.out.size)).cell (p:=⟨w.heap.size,2,none⟩) (by simp;omega)).trans (show _=some (.int .i64 R) by go_simp))
 have c3:=fun w' (hC:Below _ _ w')=>(((HB2.out.trans (Below.mono hC HB2.out.size)).cell (p:=⟨w.heap.size,3,none⟩) (by simp;omega)).trans (show _=some (.int .i64 K) by go_simp))
 refine bB [af.is (.pointer (some ⟨w.heap.size,0,none⟩)),af.is (.int .i64 N),af.is (.pointer (some ⟨w.heap.size,1,none⟩)),af.is (.int .i64 W),af.row .i64 [W,1],af.is (.int .i64 wp1),af.row .i64 [N,wp1],af.is (.int .i64 d),af.is (.int .i64 d)] (by kernel_rfl) (by kernel_rfl) rfl (by kernel_rfl) (fun ops K2 _ hK=> ?_)
 refine aa (ae rfl) (fun w' hC hd=>aD 1 (.pointer (some ⟨w.heap.size,0,none⟩)) rfl (fun ρ hρ hf e0=>ay (by go_simp))) (by go_frame;rfl) (by simp only[List.nil_append,List.cons_append];rfl) ?_
 refine aa (ae rfl) (fun w' hC hd=>aD 21 (.pointer (some ⟨w.heap.size,0,none⟩)) rfl (fun ρ hρ hf e0=>ay (by have hc0:=c0 w' hC;go_simp))) (by go_frame;rfl) (by simp only[List.nil_append,List.cons_append];rfl) ?_
 refine aa (ae rfl) (fun w' hC hd=>aD 1 (.pointer (some ⟨w.heap.size,0,none⟩)) rfl (fun ρ hρ hf e0=>ay (by go_simp))) (by go_frame;rfl) (by simp only[List.nil_append,List.cons_append];rfl) ?_
 refine aa (ae rfl) (fun w' hC hd=>aD 23 (.pointer (some ⟨w.heap.size,1,none⟩)) rfl (fun ρ hρ hf e0=>ay (by have hc0:=c1 w' hC;go_simp))) (by go_frame;rfl) (by simp only[List.nil_append,List.cons_append];rfl) ?_
 refine eZ (ae rfl) (n:=2) rfl (fun w' hC hd=>aD 24 (.int .i64 W) rfl (fun ρ hρ hf e0=>upon_row (t:=3) (cap:=2) (by go_simp))) (fun ad cap=>(by go_frame;rfl)) (fun ad=>(by simp only[List.nil_append,List.cons_append];rfl)) (fun ad4 cap4=> ?_)
 refine aa (ae rfl) (fun w' hC hd=> ?_) (by go_frame;rfl) (by simp only[List.nil_append,List.cons_append];rfl) ?_
 ·have hr:Row w' .i64 ad4 [W,1]:=hd 4 (by kernel_rfl)
  exact aD 25 (.slice ad4 2 cap4) rfl (fun ρ hρ hf e1=>dQ (f:=160) (by go_simp) (ky (lS ad4 cap4 [W,1] w' hr (by simp)) E2.out))
 refine eZ (ae rfl) (n:=2) rfl (fun w' hC hd=>bP 22 (.int .i64 N) 26 (.int .i64 wp1) rfl rfl (fun ρ hρ hf e0 e1=>upon_row (t:=3) (cap:=2) (by go_simp))) (fun ad cap=>(by go_frame;rfl)) (fun ad=>(by simp only[List.nil_append,List.cons_append];rfl)) (fun ad6 cap6=> ?_)
 refine aa (ae rfl) (fun w' hC hd=> ?_) (by go_frame;rfl) (by simp only[List.nil_append,List.cons_append];rfl) ?_
 ·have hr:Row w' .i64 ad6 [N,wp1]:=hd 6 (by kernel_rfl)
  exact aD 27 (.slice ad6 2 cap6) rfl (fun ρ hρ hf e1=>dQ (f:=161) (by go_simp) (ky (mh ad6 cap6 [N,wp1] w' hr (by simp)) E3.out))
 refine aa (ae rfl) (fun w' hC hd=>aj _ (.inr rfl) rfl) (by go_frame;rfl) (by simp only[List.nil_append,List.cons_append];rfl) ?_
 refine fJ fun w3 hC3 _=>hK _ _ ?_
 have HB3:=hid (HB2.out.trans (hC3.mono HB2.out.size))
 clear c0 c1 c2 c3 HB2 hC3
 go_wp2_with fail
 refine(ky (qI _ _ _ _ (by simp)) E4.out).mono ?_
 rintro e w4 ⟨rfl,rfl⟩
 go_wp2_with fail
 refine(ky (Bw _ _ _ _ (by simp)) E5.out).mono ?_
 rintro e w4 ⟨rfl,rfl⟩
 go_wp2_with fail
 have HB4:=hid (HB3.out.trans (((below_new w3 (.cells #[.int .i64 3,.int .i64 d] 3)).alloc (by simp) (.cells #[.int .i64 d3,.int .i64 4] 3)).mono HB3.out.size))
 clear HB3
 have hwr:IntKind.i64.wrap (W-1)=W-1:=IntWalk.i64_in _ (by omega)
 have c0:=fun w' (hC:Below _ _ w')=>(((HB4.out.trans (Below.mono hC HB4.out.size)).cell (p:=⟨w.heap.size,0,none⟩) (by simp;omega)).trans (show _=some (.int .i64 N) by go_simp))
 have c1:=fun w' (hC:Below _ _ w')=>(((HB4.out.trans (Below.mono hC HB4.out.size)).cell (p:=⟨w.heap.size,1,none⟩) (by simp;omega)).trans (show _=some (.int .i64 W) by go_simp))
 have c2:=fun w' (hC:Below _ _ w')=>(((HB4.out.trans (Below.mono hC HB4.out.size)).cell (p:=⟨w.heap.size,2,none⟩) (by simp;omega)).trans (show _=some (.int .i64 R) by go_simp))
 have c3:=fun w' (hC:Below _ _ w')=>(((HB4.out.trans (Below.mono hC HB4.out.size)).cell (p:=⟨w.heap.size,3,none⟩) (by simp;omega)).trans (show _=some (.int .i64 K) by go_simp))
 refine pq [af.is (.pointer (some ⟨w.heap.size,2,none⟩)),af.is (.int .i64 R),af.is (.pointer (some ⟨w.heap.size,0,none⟩)),af.is (.int .i64 N),af.is (.pointer (some ⟨w.heap.size,1,none⟩)),af.is (.int .i64 W),af.row .i64 [N,W],af.is (.int .i64 nw),af.row .i64 [24,R,nw],af.is (.int .i64 words),af.is (.int .i64 (W-8)),af.is (.int .i64 (W-7)),af.is (.int .i64 (W-8)),af.is (.pointer (some ⟨w.heap.size,1,none⟩)),af.is (.int .i64 W),af.is (.int .i64 (W-1)),af.row .i64 [W-8,W-1],af.is (.int .i64 fields),af.is (.int .i64 ep),af.is (.int .i64 d),af.is (.int .i64 ep),af.is (.pointer (some ⟨w.heap.size,3,none⟩)),af.is (.int .i64 K),af.is (.int .i64 u1),af.row .i64 [2,u1],af.is (.int .i64 u2),af.is (.int .i64 (W-7)),af.row .i64 [2,W-7],af.is (.int .i64 b2),af.row .i64 [u2,b2],af.is (.int .i64 lag),af.is (.int .i64 ep),af.row .i64 [2,ep],af.is (.int .i64 e2),af.is (.int .i64 d),af.row .i64 [e2,d],af.is (.int .i64 s1),af.is (.pointer (some ⟨w.heap.size,3,none⟩)),af.is (.int .i64 K),af.is (.int .i64 u3),af.row .i64 [u3,2],af.is (.int .i64 settle),af.is (.agg #[.int .i64 words,.int .i64 (W-8),.int .i64 (W-7),.int .i64 fields,.int .i64 ep,.int .i64 d,.int .i64 lag,.int .i64 settle])] (by kernel_rfl) (by kernel_rfl) (by kernel_rfl) (fun ops K2 _ hK=> ?_)
 refine aa (ae rfl) (fun w' hC hd=>aD 1 (.pointer (some ⟨w.heap.size,0,none⟩)) rfl (fun ρ hρ hf e0=>ay (by go_simp))) (by go_frame;rfl) (by simp only[List.nil_append,List.cons_append];rfl) ?_
 refine aa (ae rfl) (fun w' hC hd=>aD 34 (.pointer (some ⟨w.heap.size,2,none⟩)) rfl (fun ρ hρ hf e0=>ay (by have hc0:=c2 w' hC;go_simp))) (by go_frame;rfl) (by simp only[List.nil_append,List.cons_append];rfl) ?_
 refine aa (ae rfl) (fun w' hC hd=>aD 1 (.pointer (some ⟨w.heap.size,0,none⟩)) rfl (fun ρ hρ hf e0=>ay (by go_simp))) (by go_frame;rfl) (by simp only[List.nil_append,List.cons_append];rfl) ?_
 refine aa (ae rfl) (fun w' hC hd=>aD 36 (.pointer (some ⟨w.heap.size,0,none⟩)) rfl (fun ρ hρ hf e0=>ay (by have hc0:=c0 w' hC;go_simp))) (by go_frame;rfl) (by simp only[List.nil_append,List.cons_append];rfl) ?_
 refine aa (ae rfl) (fun w' hC hd=>aD 1 (.pointer (some ⟨w.heap.size,0,none⟩)) rfl (fun ρ hρ hf e0=>ay (by go_simp))) (by go_frame;rfl) (by simp only[List.nil_append,List.cons_append];rfl) ?_
 refine aa (ae rfl) (fun w' hC hd=>aD 38 (.pointer (some ⟨w.heap.size,1,none⟩)) rfl (fun ρ hρ hf e0=>ay (by have hc0:=c1 w' hC;go_simp))) (by go_frame;rfl) (by simp only[List.nil_append,List.cons_append];rfl) ?_
 refine eZ (ae rfl) (n:=2) rfl (fun w' hC hd=>bP 37 (.int .i64 N) 39 (.int .i64 W) rfl rfl (fun ρ hρ hf e0 e1=>upon_row (t:=3) (cap:=2) (by go_simp))) (fun ad cap=>(by go_frame;rfl)) (fun ad=>(by simp only[List.nil_append,List.cons_append];rfl)) (fun ad6 cap6=> ?_)
 refine aa (ae rfl) (fun w' hC hd=> ?_) (by go_frame;rfl) (by simp only[List.nil_append,List.cons_append];rfl) ?_
 ·have hr:Row w' .i64 ad6 [N,W]:=hd 6 (by kernel_rfl)
  exact aD 40 (.slice ad6 2 cap6) rfl (fun ρ hρ hf e1=>dQ (f:=161) (by go_simp) (ky (mh ad6 cap6 [N,W] w' hr (by simp)) E6.out))
 refine eZ (ae rfl) (n:=3) rfl (fun w' hC hd=>bP 35 (.int .i64 R) 41 (.int .i64 nw) rfl rfl (fun ρ hρ hf e0 e1=>upon_row (t:=3) (cap:=3) (by go_simp))) (fun ad cap=>(by go_frame;rfl)) (fun ad=>(by simp only[List.nil_append,List.cons_append];rfl)) (fun ad8 cap8=> ?_)
 refine aa (ae rfl) (fun w' hC hd=> ?_) (by go_frame;rfl) (by simp only[List.nil_append,List.cons_append];rfl) ?_
 ·have hr:Row w' .i64 ad8 [24,R,nw]:=hd 8 (by kernel_rfl)
  exact aD 42 (.slice ad8 3 cap8) rfl (fun ρ hρ hf e1=>dQ (f:=160) (by go_simp) (ky (lS ad8 cap8 [24,R,nw] w' hr (by simp)) E7.out))
 refine aa (ae rfl) (fun w' hC hd=>aj _ (.inl rfl) rfl) (by go_frame;rfl) (by simp only[List.nil_append,List.cons_append];rfl) ?_
 refine aa (ae rfl) (fun w' hC hd=>aj _ (.inl rfl) rfl) (by go_frame;rfl) (by simp only[List.nil_append,List.cons_append];rfl) ?_
 refine aa (ae rfl) (fun w' hC hd=>aj _ (.inl rfl) rfl) (by go_frame;rfl) (by simp only[List.nil_append,List.cons_append];rfl) ?_
 refine aa (ae rfl) (fun w' hC hd=>aD 1 (.pointer (some ⟨w.heap.size,0,none⟩)) rfl (fun ρ hρ hf e0=>ay (by go_simp))) (by go_frame;rfl) (by simp only[List.nil_append,List.cons_append];rfl) ?_
 refine aa (ae rfl) (fun w' hC hd=>aD 47 (.pointer (some ⟨w.heap.size,1,none⟩)) rfl (fun ρ hρ hf e0=>ay (by have hc0:=c1 w' hC;go_simp))) (by go_frame;rfl) (by simp only[List.nil_append,List.cons_append];rfl) ?_
 refine aa (ae rfl) (fun w' hC hd=>aD 48 (.int .i64 W) rfl (fun ρ hρ hf e0=>ay (by have hb0:=hwr;go_simp))) (by go_frame;rfl) (by simp only[List.nil_append,List.cons_append];rfl) ?_
 refine eZ (ae rfl) (n:=2) rfl (fun w' hC hd=>bP 46 (.int .i64 (W-8)) 49 (.int .i64 (W-1)) rfl rfl (fun ρ hρ hf e0 e1=>upon_row (t:=3) (cap:=2) (by go_simp))) (fun ad cap=>(by go_frame;rfl)) (fun ad=>(by simp only[List.nil_append,List.cons_append];rfl)) (fun ad16 cap16=> ?_)
 refine aa (ae rfl) (fun w' hC hd=> ?_) (by go_frame;rfl) (by simp only[List.nil_append,List.cons_append];rfl) ?_
 ·have hr:Row w' .i64 ad16 [W-8,W-1]:=hd 16 (by kernel_rfl)
  exact aD 50 (.slice ad16 2 cap16) rfl (fun ρ hρ hf e1=>dQ (f:=161) (by go_simp) (ky (mh ad16 cap16 [W-8,W-1] w' hr (by simp)) E8.out))
 refine aa (ae rfl) (fun w' hC hd=>aj _ (.inl rfl) rfl) (by go_frame;rfl) (by simp only[List.nil_append,List.cons_append];rfl) ?_
 refine aa (ae rfl) (fun w' hC hd=>aj _ (.inl rfl) rfl) (by go_frame;rfl) (by simp only[List.nil_append,List.cons_append];rfl) ?_
 refine aa (ae rfl) (fun w' hC hd=>aj _ (.inl rfl) rfl) (by go_frame;rfl) (by simp only[List.nil_append,List.cons_append];rfl) ?_
 refine aa (ae rfl) (fun w' hC hd=>aD 1 (.pointer (some ⟨w.heap.size,0,none⟩)) rfl (fun ρ hρ hf e0=>ay (by go_simp))) (by go_frame;rfl) (by simp only[List.nil_append,List.cons_append];rfl) ?_
 refine aa (ae rfl) (fun w' hC hd=>aD 55 (.pointer (some ⟨w.heap.size,3,none⟩)) rfl (fun ρ hρ hf e0=>ay (by have hc0:=c3 w' hC;go_simp))) (by go_frame;rfl) (by simp only[List.nil_append,List.cons_append];rfl) ?_
 refine aa (ae rfl) (fun w' hC hd=>bP 54 (.int .i64 ep) 56 (.int .i64 K) rfl rfl (fun ρ hρ hf e0 e1=>dQ (f:=162) (by go_simp) (ky (Gd _ _ _) E9.out))) (by go_frame;rfl) (by simp only[List.nil_append,List.cons_append];rfl) ?_
 refine eZ (ae rfl) (n:=2) rfl (fun w' hC hd=>aD 57 (.int .i64 u1) rfl (fun ρ hρ hf e0=>upon_row (t:=3) (cap:=2) (by go_simp))) (fun ad cap=>(by go_frame;rfl)) (fun ad=>(by simp only[List.nil_append,List.cons_append];rfl)) (fun ad24 cap24=> ?_)
 refine aa (ae rfl) (fun w' hC hd=> ?_) (by go_frame;rfl) (by simp only[List.nil_append,List.cons_append];rfl) ?_
 ·have hr:Row w' .i64 ad24 [2,u1]:=hd 24 (by kernel_rfl)
  exact aD 58 (.slice ad24 2 cap24) rfl (fun ρ hρ hf e1=>dQ (f:=161) (by go_simp) (ky (mh ad24 cap24 [2,u1] w' hr (by simp)) E10.out))
 refine aa (ae rfl) (fun w' hC hd=>aj _ (.inl rfl) rfl) (by go_frame;rfl) (by simp only[List.nil_append,List.cons_append];rfl) ?_
 refine eZ (ae rfl) (n:=2) rfl (fun w' hC hd=>aD 60 (.int .i64 (W-7)) rfl (fun ρ hρ hf e0=>upon_row (t:=3) (cap:=2) (by go_simp))) (fun ad cap=>(by go_frame;rfl)) (fun ad=>(by simp only[List.nil_append,List.cons_append];rfl)) (fun ad27 cap27=> ?_)
 refine aa (ae rfl) (fun w' hC hd=> ?_) (by go_frame;rfl) (by simp only[List.nil_append,List.cons_append];rfl) ?_
 ·have hr:Row w' .i64 ad27 [2,W-7]:=hd 27 (by kernel_rfl)
  exact aD 61 (.slice ad27 2 cap27) rfl (fun ρ hρ hf e1=>dQ (f:=161) (by go_simp) (ky (mh ad27 cap27 [2,W-7] w' hr (by simp)) E11.out))
 refine eZ (ae rfl) (n:=2) rfl (fun w' hC hd=>bP 59 (.int .i64 u2) 62 (.int .i64 b2) rfl rfl (fun ρ hρ hf e0 e1=>upon_row (t:=3) (cap:=2) (by go_simp))) (fun ad cap=>(by go_frame;rfl)) (fun ad=>(by simp only[List.nil_append,List.cons_append];rfl)) (fun ad29 cap29=> ?_)
 refine aa (ae rfl) (fun w' hC hd=> ?_) (by go_frame;rfl) (by simp only[List.nil_append,List.cons_append];rfl) ?_
 ·have hr:Row w' .i64 ad29 [u2,b2]:=hd 29 (by kernel_rfl)
  exact aD 63 (.slice ad29 2 cap29) rfl (fun ρ hρ hf e1=>dQ (f:=160) (by go_simp) (ky (lS ad29 cap29 [u2,b2] w' hr (by simp)) E12.out))
 refine aa (ae rfl) (fun w' hC hd=>aj _ (.inl rfl) rfl) (by go_frame;rfl) (by simp only[List.nil_append,List.cons_append];rfl) ?_
 refine eZ (ae rfl) (n:=2) rfl (fun w' hC hd=>aD 65 (.int .i64 ep) rfl (fun ρ hρ hf e0=>upon_row (t:=3) (cap:=2) (by go_simp))) (fun ad cap=>(by go_frame;rfl)) (fun ad=>(by simp only[List.nil_append,List.cons_append];rfl)) (fun ad32 cap32=> ?_)
 refine aa (ae rfl) (fun w' hC hd=> ?_) (by go_frame;rfl) (by simp only[List.nil_append,List.cons_append];rfl) ?_
 ·have hr:Row w' .i64 ad32 [2,ep]:=hd 32 (by kernel_rfl)
  exact aD 66 (.slice ad32 2 cap32) rfl (fun ρ hρ hf e1=>dQ (f:=161) (by go_simp) (ky (mh ad32 cap32 [2,ep] w' hr (by simp)) E13.out))
 refine aa (ae rfl) (fun w' hC hd=>aj _ (.inl rfl) rfl) (by go_frame;rfl) (by simp only[List.nil_append,List.cons_append];rfl) ?_
 refine eZ (ae rfl) (n:=2) rfl (fun w' hC hd=>bP 67 (.int .i64 e2) 68 (.int .i64 d) rfl rfl (fun ρ hρ hf e0 e1=>upon_row (t:=3) (cap:=2) (by go_simp))) (fun ad cap=>(by go_frame;rfl)) (fun ad=>(by simp only[List.nil_append,List.cons_append];rfl)) (fun ad35 cap35=> ?_)
 refine aa (ae rfl) (fun w' hC hd=> ?_) (by go_frame;rfl) (by simp only[List.nil_append,List.cons_append];rfl) ?_
 ·have hr:Row w' .i64 ad35 [e2,d]:=hd 35 (by kernel_rfl)
  exact aD 69 (.slice ad35 2 cap35) rfl (fun ρ hρ hf e1=>dQ (f:=160) (by go_simp) (ky (lS ad35 cap35 [e2,d] w' hr (by simp)) E14.out))
 refine aa (ae rfl) (fun w' hC hd=>aD 1 (.pointer (some ⟨w.heap.size,0,none⟩)) rfl (fun ρ hρ hf e0=>ay (by go_simp))) (by go_frame;rfl) (by simp only[List.nil_append,List.cons_append];rfl) ?_
 refine aa (ae rfl) (fun w' hC hd=>aD 71 (.pointer (some ⟨w.heap.size,3,none⟩)) rfl (fun ρ hρ hf e0=>ay (by have hc0:=c3 w' hC;go_simp))) (by go_frame;rfl) (by simp only[List.nil_append,List.cons_append];rfl) ?_
 refine aa (ae rfl) (fun w' hC hd=>bP 70 (.int .i64 s1) 72 (.int .i64 K) rfl rfl (fun ρ hρ hf e0 e1=>dQ (f:=162) (by go_simp) (ky (Gd _ _ _) E15.out))) (by go_frame;rfl) (by simp only[List.nil_append,List.cons_append];rfl) ?_
 refine eZ (ae rfl) (n:=2) rfl (fun w' hC hd=>aD 73 (.int .i64 u3) rfl (fun ρ hρ hf e0=>upon_row (t:=3) (cap:=2) (by go_simp))) (fun ad cap=>(by go_frame;rfl)) (fun ad=>(by simp only[List.nil_append,List.cons_append];rfl)) (fun ad40 cap40=> ?_)
 refine aa (ae rfl) (fun w' hC hd=> ?_) (by go_frame;rfl) (by simp only[List.nil_append,List.cons_append];rfl) ?_
 ·have hr:Row w' .i64 ad40 [u3,2]:=hd 40 (by kernel_rfl)
  exact aD 74 (.slice ad40 2 cap40) rfl (fun ρ hρ hf e1=>dQ (f:=160) (by go_simp) (ky (lS ad40 cap40 [u3,2] w' hr (by simp)) E16.out))
 refine aa (ae rfl) (fun w' hC hd=>Qm 43 (.int .i64 words) 44 (.int .i64 (W-8)) 45 (.int .i64 (W-7)) 51 (.int .i64 fields) 52 (.int .i64 ep) 53 (.int .i64 d) 64 (.int .i64 lag) 75 (.int .i64 settle) rfl rfl rfl rfl rfl rfl rfl rfl (fun ρ hρ hf e0 e1 e2 e3 e4 e5 e6 e7=>ay (by go_simp))) (by go_frame;rfl) (by simp only[List.nil_append,List.cons_append];rfl) ?_
 refine fJ fun w5 hC5 _=>hK _ _ ?_
 have hb5:=HB4.out.trans (hC5.mono HB4.out.size)
 clear c0 c1 c2 c3 HB4 hC5 hwr
 show wpList _ _ _ [_,_] _ _
 obtain⟨hc,hf⟩:=Gp hb5
 have hz5:w.heap.size+1<w5.heap.size:=by have:=hb5.size;simp at this;omega
 have HB5:=hid hb5
 clear hb5
 go_wp2_with fail
 exact bodyPost_ret (v:=.tuple #[.agg #[.int .i64 words,.int .i64 (W-8),.int .i64 (W-7),.int .i64 fields,.int .i64 ep,.int .i64 d,.int .i64 lag,.int .i64 settle],.int .i64 0]) (by simp[results,Tryz.results90,go_sem,hc,hz5]) rfl ⟨rfl,by
  repeat refine Below.setCell ?_ (by simp) _
  exact((below_new w _).alloc (by simp) _).trans (HB5.out.mono (by simp;omega))⟩
def GM(N W R K:Int):Value:=.agg #[.int .i64 (Br N W R),.int .i64 (W-8),.int .i64 (W-7),.int .i64 (fieldsI W),.int .i64 (ic N W),.int .i64 (iD N W),.int .i64 (Pw N W K),.int .i64 (AL N W K)]
theorem PL(N W R K:Int)(w:World)(h:May N W R K):
  Calls Tryz.prog 90 #[.agg #[.int .i64 N,.int .i64 W,.int .i64 R,.int .i64 K]] w fun e w'=>e=.returned (.tuple #[GM N W R K,.int .i64 0])∧Below w.heap.size w w':=by
 have n0:=h.n0;have n1:=h.n1;have w0:=h.w0;have w1:=h.w1;have r0:=h.r0;have r1:=h.r1;have k0:=h.k0;have k1:=h.k1
 have hnw:=GN h
 have hd:=BV h
 have he:=Kr h
 have hf:=iq w0 w1
 have hu:=Gc (a:=ic N W) (b:=K) (by omega) k0
 have hv:=Gc (a:=2*ic N W+iD N W) (b:=K) (by omega) k0
 have m2:∀x:Int,0≤x→x≤100000000→kz [2,x]=2*x:=fun x h0 h1=>kG (by omega) h0 (by omega) (by omega) (by omega)
 exact NC N W R K (W+1) (iD N W) (3*iD N W) (ic N W) (N*W) (Br N W R) (fieldsI W) (Ew (ic N W) K) (2*Ew (ic N W) K) (2*(W-7)) (Pw N W K) (2*ic N W) (2*ic N W+iD N W) (Ew (2*ic N W+iD N W) K) (AL N W K) w (hid h) w0 w1
  (hid (by rw[lQ (by omega) (by omega) (by omega)];omega)) (hid (lQ (by omega) (by omega) (by omega))) (hid (kG (by omega) (by omega) (by omega) (by omega) (by have:N*(W+1)=iD N W:=rfl;omega)))
  (hid (kG (by omega) (by omega) (by omega) (by omega) (by omega))) (hid (lQ (by omega) (by omega) (by omega))) (hid (kG (by omega) (by omega) (by omega) (by omega) (by omega)))
  (hid (MI (by omega) (by omega) (by omega) (by omega))) (hid (kG (by omega) (by omega) (by omega) (by omega) (by have:(W-8)*(W-1)=fieldsI W:=rfl;omega)))
  (hid (Mr (by omega) (by omega) k0 (by omega))) (hid (m2 _ (by omega) (by omega))) (hid (m2 _ (by omega) (by omega))) (hid (lQ (by omega) (by omega) (by omega))) (hid (m2 _ (by omega) (by omega))) (hid (lQ (by omega) (by omega) (by omega)))
  (hid (Mr (by omega) (by omega) k0 (by omega))) (hid (lQ (by omega) (by omega) (by omega)))
theorem Sq{N W R K:Int}{v:Value}(w:World)(h:May N W R K)(hv:GM N W R K=v):
  Calls Tryz.prog 90 #[.agg #[.int .i64 N,.int .i64 W,.int .i64 R,.int .i64 K]] w fun e w'=>e=.returned (.tuple #[v,.int .i64 0])∧Below w.heap.size w w':=hv▸PL N W R K w h
end Go.Proofs.YtjmifnljckmimaaGreat.Pk
