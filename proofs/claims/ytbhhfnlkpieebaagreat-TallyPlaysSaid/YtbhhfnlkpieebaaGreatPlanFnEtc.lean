/-
  Ratio: What the functions of package ratio return, and the document's.
  Plan: What the functions of package plan return.
  PlanOf: What plan.Of returns.
  PlanNums: plan.Of with its numbers; plan.Pause; the document's May and Pause; the chapter's example.
-/
import Derived.Test.YtbhhfnlkpieebaaGreatProg
import Derived.Test.YtbhhfnlkpieebaaGreatBaseEtc
import Derived.IntWalk
import Derived.Test.YtbhhfnlkpieebaaGreatTameEtc
import Derived.Outline
import Derived.Lib.SmallJoins
namespace Go.Proofs.YtbhhfnlkpieebaaGreat.Pk
open Lib (hid)
open Go.RowKit
set_option linter.unusedVariables false
set_option linter.unusedSimpArgs false
set_option maxHeartbeats 400000 in
theorem xu(n lo hi:Int)(w:World):
  Calls Tryz.prog 233 #[.int .i64 n,.int .i64 lo,.int .i64 hi] w fun e w'=>e=.returned (.int .i64 (jv n lo hi))∧w=w':=by
 by_cases h1:hi<n
 ·go_enter Tryz.func233,Tryz.ntmps233
  go_wp2
  go_ret
  exact⟨aU (by unfold jv;rw[if_pos h1]),rfl⟩
 ·by_cases h2:n<lo
  ·go_enter Tryz.func233,Tryz.ntmps233
   go_wp2
   go_ret
   exact⟨aU (by unfold jv;rw[if_neg (by omega),if_pos (by omega)]),rfl⟩
  ·go_enter Tryz.func233,Tryz.ntmps233
   go_wp2
   go_ret
   exact⟨aU (by unfold jv;rw[if_neg (by omega),if_neg (by omega)]),rfl⟩
set_option maxHeartbeats 400000 in
theorem gy(n:Int)(w:World):
  Calls Tryz.prog 211 #[.int .i64 n] w fun e w'=>e=.returned (.int .i64 (cnt n))∧w=w':=by
 go_enter Tryz.func211,Tryz.ntmps211
 go_wp2_with fail
 refine(xu _ _ _ _).mono ?_
 rintro e w1 ⟨rfl,rfl⟩
 go_wp2_with fail
 go_ret
 exact⟨rfl,rfl⟩
set_option maxHeartbeats 400000 in
theorem rR(n:Int)(w:World):
  Calls Tryz.prog 213 #[.int .i64 n] w fun e w'=>e=.returned (.int .i64 (Io n))∧w=w':=by
 have hb:=dF n
 by_cases h:cnt n<1
 all_goals
  go_enter Tryz.func213,Tryz.ntmps213
  go_wp2_with fail
  refine(gy _ _).mono ?_
  rintro e w1 ⟨rfl,rfl⟩
  go_wp2_with fail
  go_ret
  exact⟨aU (by rw[Lr];omega),rfl⟩
set_option maxHeartbeats 400000 in
theorem Hl(a b:Int)(w:World)(ha:0≤a)(ha2:a≤1125899906842624)(hb:0≤b)(hb2:b≤1125899906842624):
  Calls Tryz.prog 212 #[.int .i64 a,.int .i64 b] w fun e w'=>e=.returned (.int .i64 (gV a b))∧w=w':=by
 by_cases h0:0<b
 ·by_cases h1:1125899906842624/b<a
  ·go_enter Tryz.func212,Tryz.ntmps212
   go_wp2
   go_ret
   exact⟨aU (by unfold gV;rw[if_pos ⟨h0,h1⟩]),rfl⟩
  ·have e:gV a b=a*b:=by unfold gV;rw[if_neg (fun h=>h1 h.2)]
   have h2:=KF ha hb ha2 hb2
   rw[e] at h2
   have E:=hid e
   clear e
   go_enter Tryz.func212,Tryz.ntmps212
   go_wp2
   go_ret
   exact⟨aU (by rw[E.out]),rfl⟩
 ·have h1:b=0:=by omega
  subst h1
  go_enter Tryz.func212,Tryz.ntmps212
  go_wp2
  go_ret
  exact⟨aU (by unfold gV;rw[if_neg (by omega)];simp),rfl⟩
set_option maxHeartbeats 400000 in
theorem lg(a:Option Addr)(cap:Nat)(zs:List Int)(w:World)(hrow:Row w .i64 a zs)(hlen:(zs.length:Int)≤9223372036854775807):
  Calls Tryz.prog 176 #[.slice a zs.length cap] w fun e w'=>e=.returned (.int .i64 (gH zs))∧w=w':=by
 go_enter Tryz.func176,Tryz.ntmps176
 go_wp2
 go_loop [3,8] (fun t i=>∃k:Nat,k≤zs.length∧i=.int .i64 k∧t=.int .i64 (oJ zs k)) (fun _ i=>zs.length-(intOf i).toNat)
 case atStart=>exact⟨0,Nat.zero_le _,rfl,rfl⟩
 case round=>
  obtain⟨k,hk,rfl,rfl⟩:=hrel
  have h1:=II zs k
  have h2:=dF (nth zs k)
  by_cases hlt:k<zs.length
  ·obtain⟨b,off,rfl,hb,hc⟩:=hrow k hlt
   have HS:=hid (tX hlt)
   go_wp2_with fail
   refine(gy _ _).mono ?_
   rintro e w1 ⟨rfl,rfl⟩
   go_wp2_with fail
   refine(gy _ _).mono ?_
   rintro e w1 ⟨rfl,rfl⟩
   go_wp2_with fail
   go_round
   case rel=>exact⟨k+1,by omega,by go_num,by rw[HS.out]⟩
   case measure=>simp[intOf];omega
  ·have e:k=zs.length:=by omega
   have HE:Hid (oJ zs k=gH zs):=by rw[e,xc];exact rfl
   clear e
   go_wp2
   go_ret
   exact⟨aU HE.out,rfl⟩
set_option maxHeartbeats 400000 in
theorem lJ(a:Option Addr)(cap:Nat)(zs:List Int)(w:World)(hrow:Row w .i64 a zs)(hlen:(zs.length:Int)≤9223372036854775807):
  Calls Tryz.prog 177 #[.slice a zs.length cap] w fun e w'=>e=.returned (.int .i64 (jO zs))∧w=w':=by
 go_enter Tryz.func177,Tryz.ntmps177
 go_wp2
 go_loop [3,8] (fun t i=>∃k:Nat,k≤zs.length∧i=.int .i64 k∧t=.int .i64 (oQ zs k)) (fun _ i=>zs.length-(intOf i).toNat)
 case atStart=>exact⟨0,Nat.zero_le _,rfl,rfl⟩
 case round=>
  obtain⟨k,hk,rfl,rfl⟩:=hrel
  have h1:=JI zs k
  have h2:=dF (nth zs k)
  by_cases hlt:k<zs.length
  ·obtain⟨b,off,rfl,hb,hc⟩:=hrow k hlt
   have HS:=hid (uM hlt)
   go_wp2_with fail
   refine(gy _ _).mono ?_
   rintro e w1 ⟨rfl,rfl⟩
   go_wp2_with fail
   refine(Hl _ _ _ h1.1 h1.2 h2.1 h2.2).mono ?_
   rintro e w1 ⟨rfl,rfl⟩
   go_wp2_with fail
   go_round
   case rel=>exact⟨k+1,by omega,by go_num,by rw[HS.out]⟩
   case measure=>simp[intOf];omega
  ·have e:k=zs.length:=by omega
   have HE:Hid (oQ zs k=jO zs):=by rw[e,xM];exact rfl
   clear e
   go_wp2
   go_ret
   exact⟨aU HE.out,rfl⟩
set_option maxHeartbeats 400000 in
theorem IZ(a b:Int)(w:World):
  Calls Tryz.prog 219 #[.int .i64 a,.int .i64 b] w fun e w'=>e=.returned (.int .i64 (IY a b))∧w=w':=by
 have h1:=dF a
 have h2:=IQ b
 go_enter Tryz.func219,Tryz.ntmps219
 go_wp2_with (first|(go_at_call 211;refine(gy _ _).mono ?_;rintro e w' ⟨rfl,rfl⟩)|(go_at_call 213;refine(rR _ _).mono ?_;rintro e w' ⟨rfl,rfl⟩))
 go_ret
 exact⟨aU rfl,rfl⟩
set_option maxHeartbeats 400000 in
theorem Ew(a b:Int)(w:World):
  Calls Tryz.prog 178 #[.int .i64 a,.int .i64 b] w fun e w'=>e=.returned (.int .i64 (OX a b))∧w=w':=by
 have h1:=dF a
 have h2:=IQ b
 go_enter Tryz.func178,Tryz.ntmps178
 go_wp2_with (first|(go_at_call 211;refine(gy _ _).mono ?_;rintro e w' ⟨rfl,rfl⟩)|(go_at_call 213;refine(rR _ _).mono ?_;rintro e w' ⟨rfl,rfl⟩))
 go_ret
 exact⟨aU rfl,rfl⟩
theorem mX{a b:Int}(h:a≠b):(a==b)=false:=by rw[beq_eq_false_iff_ne];exact h
theorem jN{P:Program}{f:FuncId}{args:Array Value}{w:World}{a b:Int}(h:Calls P f args w fun e w'=>e=.returned (.int .i64 a)∧w=w')(hab:a=b):
  Calls P f args w fun e w'=>e=.returned (.int .i64 b)∧w=w':=hab▸h
theorem qb(x y:Int)(w:World)(m:Nat)(h:m=w.heap.size):
  Calls Tryz.prog 177 #[.slice (some ⟨m,0,none⟩) 2 2] (w.alloc (.cells #[.int .i64 x,.int .i64 y] 3)) fun e w'=>e=.returned (.int .i64 (jO [x,y]))∧w.alloc (.cells #[.int .i64 x,.int .i64 y] 3)=w':=by
 subst h
 exact lJ (some ⟨w.heap.size,0,none⟩) 2 [x,y] _ (Row.lit w .i64 [x,y] 3) (by simp)
theorem zQ(x y:Int)(w:World)(m:Nat)(h:m=w.heap.size):
  Calls Tryz.prog 176 #[.slice (some ⟨m,0,none⟩) 2 2] (w.alloc (.cells #[.int .i64 x,.int .i64 y] 3)) fun e w'=>e=.returned (.int .i64 (gH [x,y]))∧w.alloc (.cells #[.int .i64 x,.int .i64 y] 3)=w':=by
 subst h
 exact lg (some ⟨w.heap.size,0,none⟩) 2 [x,y] _ (Row.lit w .i64 [x,y] 3) (by simp)
set_option maxHeartbeats 400000 in
theorem mg(n lo hi:Int)(w:World)(h0:lo≤n)(h1:n≤hi):
  Calls Tryz.prog 210 #[.int .i64 n,.int .i64 lo,.int .i64 hi] w fun e w'=>e=.returned (.bool true)∧w=w':=by
 have E:=hid (IR h0 h1)
 go_enter Tryz.func210,Tryz.ntmps210
 go_wp2_with fail
 refine(jN (xu _ _ _ _) E.out).mono ?_
 rintro e w1 ⟨rfl,rfl⟩
 go_wp2_with fail
 go_ret
 exact⟨aj (by simp),rfl⟩
set_option maxHeartbeats 1000000 in
theorem FW(N W R K:Int)(w:World)(h:May N W R K):
  Calls Tryz.prog 175 #[.agg #[.int .i64 N,.int .i64 W,.int .i64 R,.int .i64 K]] w fun e w'=>e=.returned (.int .i64 0)∧Below w.heap.size w w':=by
 have hb:=Fq h
 have E:Hid (jO [N,W]=N*W):=hid (jU (by have:=h.n0;omega) (by have:=h.w0;omega) (by have:=h.n1;omega) (by have:=h.w1;omega) (by omega))
 have hle:N*W≤4194304:=hb.2
 generalize N*W=p at*
 obtain⟨n0,n1,w0,w1,r0,r1,k0,k1,_⟩:=h
 clear hb
 go_enter Tryz.func175,Tryz.ntmps175
 go_wp2_with fail
 refine(mg _ _ _ _ n0 n1).mono ?_
 rintro e w1 ⟨rfl,rfl⟩
 go_wp2_with fail
 refine(mg _ _ _ _ w0 w1).mono ?_
 rintro e w1 ⟨rfl,rfl⟩
 go_wp2_with fail
 refine(mg _ _ _ _ r0 r1).mono ?_
 rintro e w1 ⟨rfl,rfl⟩
 go_wp2_with fail
 refine(mg _ _ _ _ k0 k1).mono ?_
 rintro e w1 ⟨rfl,rfl⟩
 go_wp2_with fail
 refine(jN (qb _ _ _ _ (by simp)) E.out).mono ?_
 rintro e w1 ⟨rfl,rfl⟩
 go_wp2_with fail
 go_ret
 exact⟨rfl,(below_new _ _).alloc (by simp) _⟩
set_option maxRecDepth 100000 in
set_option maxHeartbeats 4000000 in
theorem Ml(N W R K wp1 d d3 ep nw words fields u1 u2 b2 lag e2 s1 u3 settle:Int)(w:World)(HX:Hid (May N W R K))(w0:16≤W)(w1b:W≤256)
  (E1:Hid (gH [W-8,1]=W-7)) (E2:Hid (gH [W,1]=wp1)) (E3:Hid (jO [N,wp1]=d)) (E4:Hid (jO [3,d]=d3)) (E5:Hid (gH [d3,4]=ep)) (E6:Hid (jO [N,W]=nw)) (E7:Hid (gH [24,R,nw]=words))
  (E8:Hid (jO [W-8,W-1]=fields)) (E9:Hid (OX ep K=u1)) (E10:Hid (jO [2,u1]=u2)) (E11:Hid (jO [2,W-7]=b2)) (E12:Hid (gH [u2,b2]=lag)) (E13:Hid (jO [2,ep]=e2)) (E14:Hid (gH [e2,d]=s1)) (E15:Hid (OX s1 K=u3)) (E16:Hid (gH [u3,2]=settle)):
  Calls Tryz.prog 122 #[.agg #[.int .i64 N,.int .i64 W,.int .i64 R,.int .i64 K]] w fun e w'=>e=.returned (.tuple #[.agg #[.int .i64 words,.int .i64 (W-8),.int .i64 (W-7),.int .i64 fields,.int .i64 ep,.int .i64 d,.int .i64 lag,.int .i64 settle],.int .i64 0])∧Below w.heap.size w w':=by
 go_enter Tryz.func122,Tryz.ntmps122
 go_wp2_with fail
 refine(FW _ _ _ _ _ HX.out).mono ?_
 rintro e w1 ⟨rfl,hb⟩
 obtain⟨hc,hf⟩:=EJ hb
 have hz:w.heap.size+1<w1.heap.size:=by have:=hb.size;simp at this;omega
 have HB:=hid hb
 clear hb
 go_wp2_with fail
 refine(jN (zQ _ _ _ _ (by simp)) E1.out).mono ?_
 rintro e w2 ⟨rfl,rfl⟩
 go_wp2_with fail
 have HB2:=hid (HB.out.trans ((below_new w1 (.cells #[.int .i64 (W-8),.int .i64 1] 3)).mono HB.out.size))
 clear HB hc hf
 have c0:=fun w' (hC:Below _ _ w')=>(((HB2.out.trans (Below.mono hC HB2.out.size)).cell (p:=⟨w.heap.size,0,none⟩) (by simp;omega)).trans (show _=some (.int .i64 N) by go_simp))
 have c1:=fun w' (hC:Below _ _ w')=>(((HB2.out.trans (Below.mono hC HB2.out.size)).cell (p:=⟨w.heap.size,1,none⟩) (by simp;omega)).trans (show _=some (.int .i64 W) by go_simp))
 have c2:=fun w' (hC:Below _ _ w')=>(((HB2.out.trans (Below.mono hC HB2.out.size)).cell (p:=⟨w.heap.size,2,none⟩) (by simp;omega)).trans (show _=some (.int .i64 R) by go_simp))
 have c3:=fun w' (hC:Below _ _ w')=>(((HB2.out.trans (Below.mono hC HB2.out.size)).cell (p:=⟨w.heap.size,3,none⟩) (by simp;omega)).trans (show _=some (.int .i64 K) by go_simp))
 refine wp_region_tame_all [Fact.is (.pointer (some ⟨w.heap.size,0,none⟩)),Fact.is (.int .i64 N),Fact.is (.pointer (some ⟨w.heap.size,1,none⟩)),Fact.is (.int .i64 W),Fact.row .i64 [W,1],Fact.is (.int .i64 wp1),Fact.row .i64 [N,wp1],Fact.is (.int .i64 d),Fact.is (.int .i64 d)] (by kernel_rfl) (by kernel_rfl) rfl (by kernel_rfl) (fun ops K2 _ hK=> ?_)
 refine walkT_is (wantedN rfl) (fun w' hC hd=>tame_1 1 (.pointer (some ⟨w.heap.size,0,none⟩)) rfl (fun ρ hρ hf e0=>upon_is (by go_simp))) (by go_frame;rfl) (by simp only[List.nil_append,List.cons_append];rfl) ?_
 refine walkT_is (wantedN rfl) (fun w' hC hd=>tame_1 21 (.pointer (some ⟨w.heap.size,0,none⟩)) rfl (fun ρ hρ hf e0=>upon_is (by have hc0:=c0 w' hC;go_simp))) (by go_frame;rfl) (by simp only[List.nil_append,List.cons_append];rfl) ?_
 refine walkT_is (wantedN rfl) (fun w' hC hd=>tame_1 1 (.pointer (some ⟨w.heap.size,0,none⟩)) rfl (fun ρ hρ hf e0=>upon_is (by go_simp))) (by go_frame;rfl) (by simp only[List.nil_append,List.cons_append];rfl) ?_
 refine walkT_is (wantedN rfl) (fun w' hC hd=>tame_1 23 (.pointer (some ⟨w.heap.size,1,none⟩)) rfl (fun ρ hρ hf e0=>upon_is (by have hc0:=c1 w' hC;go_simp))) (by go_frame;rfl) (by simp only[List.nil_append,List.cons_append];rfl) ?_
 refine dJ (wantedN rfl) (n:=2) rfl (fun w' hC hd=>tame_1 24 (.int .i64 W) rfl (fun ρ hρ hf e0=>upon_row (t:=3) (cap:=2) (by go_simp))) (fun ad cap=>(by go_frame;rfl)) (fun ad=>(by simp only[List.nil_append,List.cons_append];rfl)) (fun ad4 cap4=> ?_)
 refine walkT_is (wantedN rfl) (fun w' hC hd=> ?_) (by go_frame;rfl) (by simp only[List.nil_append,List.cons_append];rfl) ?_
 ·have hr:Row w' .i64 ad4 [W,1]:=hd 4 (by kernel_rfl)
  exact tame_1 25 (.slice ad4 2 cap4) rfl (fun ρ hρ hf e1=>bR (f:=176) (by go_simp) (jN (lg ad4 cap4 [W,1] w' hr (by simp)) E2.out))
 refine dJ (wantedN rfl) (n:=2) rfl (fun w' hC hd=>tame_2 22 (.int .i64 N) 26 (.int .i64 wp1) rfl rfl (fun ρ hρ hf e0 e1=>upon_row (t:=3) (cap:=2) (by go_simp))) (fun ad cap=>(by go_frame;rfl)) (fun ad=>(by simp only[List.nil_append,List.cons_append];rfl)) (fun ad6 cap6=> ?_)
 refine walkT_is (wantedN rfl) (fun w' hC hd=> ?_) (by go_frame;rfl) (by simp only[List.nil_append,List.cons_append];rfl) ?_
 ·have hr:Row w' .i64 ad6 [N,wp1]:=hd 6 (by kernel_rfl)
  exact tame_1 27 (.slice ad6 2 cap6) rfl (fun ρ hρ hf e1=>bR (f:=177) (by go_simp) (jN (lJ ad6 cap6 [N,wp1] w' hr (by simp)) E3.out))
 refine walkT_is (wantedN rfl) (fun w' hC hd=>tame_move _ (.inr rfl) rfl) (by go_frame;rfl) (by simp only[List.nil_append,List.cons_append];rfl) ?_
 refine walkT_nil fun w3 hC3 _=>hK _ _ ?_
 have HB3:=hid (HB2.out.trans (hC3.mono HB2.out.size))
 clear c0 c1 c2 c3 HB2 hC3
 go_wp2_with fail
 refine(jN (qb _ _ _ _ (by simp)) E4.out).mono ?_
 rintro e w4 ⟨rfl,rfl⟩
 go_wp2_with fail
 refine(jN (zQ _ _ _ _ (by simp)) E5.out).mono ?_
 rintro e w4 ⟨rfl,rfl⟩
 go_wp2_with fail
 have HB4:=hid (HB3.out.trans (((below_new w3 (.cells #[.int .i64 3,.int .i64 d] 3)).alloc (by simp) (.cells #[.int .i64 d3,.int .i64 4] 3)).mono HB3.out.size))
 clear HB3
 have hwr:IntKind.i64.wrap (W-1)=W-1:=IntWalk.i64_in _ (by omega)
 have c0:=fun w' (hC:Below _ _ w')=>(((HB4.out.trans (Below.mono hC HB4.out.size)).cell (p:=⟨w.heap.size,0,none⟩) (by simp;omega)).trans (show _=some (.int .i64 N) by go_simp))
 have c1:=fun w' (hC:Below _ _ w')=>(((HB4.out.trans (Below.mono hC HB4.out.size)).cell (p:=⟨w.heap.size,1,none⟩) (by simp;omega)).trans (show _=some (.int .i64 W) by go_simp))
 have c2:=fun w' (hC:Below _ _ w')=>(((HB4.out.trans (Below.mono hC HB4.out.size)).cell (p:=⟨w.heap.size,2,none⟩) (by simp;omega)).trans (show _=some (.int .i64 R) by go_simp))
 have c3:=fun w' (hC:Below _ _ w')=>(((HB4.out.trans (Below.mono hC HB4.out.size)).cell (p:=⟨w.heap.size,3,none⟩) (by simp;omega)).trans (show _=some (.int .i64 K) by go_simp))
 refine iV [Fact.is (.pointer (some ⟨w.heap.size,2,none⟩)),Fact.is (.int .i64 R),Fact.is (.pointer (some ⟨w.heap.size,0,none⟩)),Fact.is (.int .i64 N),Fact.is (.pointer (some ⟨w.heap.size,1,none⟩)),Fact.is (.int .i64 W),Fact.row .i64 [N,W],Fact.is (.int .i64 nw),Fact.row .i64 [24,R,nw],Fact.is (.int .i64 words),Fact.is (.int .i64 (W-8)),Fact.is (.int .i64 (W-7)),Fact.is (.int .i64 (W-8)),Fact.is (.pointer (some ⟨w.heap.size,1,none⟩)),Fact.is (.int .i64 W),Fact.is (.int .i64 (W-1)),Fact.row .i64 [W-8,W-1],Fact.is (.int .i64 fields),Fact.is (.int .i64 ep),Fact.is (.int .i64 d),Fact.is (.int .i64 ep),Fact.is (.pointer (some ⟨w.heap.size,3,none⟩)),Fact.is (.int .i64 K),Fact.is (.int .i64 u1),Fact.row .i64 [2,u1],Fact.is (.int .i64 u2),Fact.is (.int .i64 (W-7)),Fact.row .i64 [2,W-7],Fact.is (.int .i64 b2),Fact.row .i64 [u2,b2],Fact.is (.int .i64 lag),Fact.is (.int .i64 ep),Fact.row .i64 [2,ep],Fact.is (.int .i64 e2),Fact.is (.int .i64 d),Fact.row .i64 [e2,d],Fact.is (.int .i64 s1),Fact.is (.pointer (some ⟨w.heap.size,3,none⟩)),Fact.is (.int .i64 K),Fact.is (.int .i64 u3),Fact.row .i64 [u3,2],Fact.is (.int .i64 settle),Fact.is (.agg #[.int .i64 words,.int .i64 (W-8),.int .i64 (W-7),.int .i64 fields,.int .i64 ep,.int .i64 d,.int .i64 lag,.int .i64 settle])] (by kernel_rfl) (by kernel_rfl) (by kernel_rfl) (fun ops K2 _ hK=> ?_)
 refine walkT_is (wantedN rfl) (fun w' hC hd=>tame_1 1 (.pointer (some ⟨w.heap.size,0,none⟩)) rfl (fun ρ hρ hf e0=>upon_is (by go_simp))) (by go_frame;rfl) (by simp only[List.nil_append,List.cons_append];rfl) ?_
 refine walkT_is (wantedN rfl) (fun w' hC hd=>tame_1 34 (.pointer (some ⟨w.heap.size,2,none⟩)) rfl (fun ρ hρ hf e0=>upon_is (by have hc0:=c2 w' hC;go_simp))) (by go_frame;rfl) (by simp only[List.nil_append,List.cons_append];rfl) ?_
 refine walkT_is (wantedN rfl) (fun w' hC hd=>tame_1 1 (.pointer (some ⟨w.heap.size,0,none⟩)) rfl (fun ρ hρ hf e0=>upon_is (by go_simp))) (by go_frame;rfl) (by simp only[List.nil_append,List.cons_append];rfl) ?_
 refine walkT_is (wantedN rfl) (fun w' hC hd=>tame_1 36 (.pointer (some ⟨w.heap.size,0,none⟩)) rfl (fun ρ hρ hf e0=>upon_is (by have hc0:=c0 w' hC;go_simp))) (by go_frame;rfl) (by simp only[List.nil_append,List.cons_append];rfl) ?_
 refine walkT_is (wantedN rfl) (fun w' hC hd=>tame_1 1 (.pointer (some ⟨w.heap.size,0,none⟩)) rfl (fun ρ hρ hf e0=>upon_is (by go_simp))) (by go_frame;rfl) (by simp only[List.nil_append,List.cons_append];rfl) ?_
 refine walkT_is (wantedN rfl) (fun w' hC hd=>tame_1 38 (.pointer (some ⟨w.heap.size,1,none⟩)) rfl (fun ρ hρ hf e0=>upon_is (by have hc0:=c1 w' hC;go_simp))) (by go_frame;rfl) (by simp only[List.nil_append,List.cons_append];rfl) ?_
 refine dJ (wantedN rfl) (n:=2) rfl (fun w' hC hd=>tame_2 37 (.int .i64 N) 39 (.int .i64 W) rfl rfl (fun ρ hρ hf e0 e1=>upon_row (t:=3) (cap:=2) (by go_simp))) (fun ad cap=>(by go_frame;rfl)) (fun ad=>(by simp only[List.nil_append,List.cons_append];rfl)) (fun ad6 cap6=> ?_)
 refine walkT_is (wantedN rfl) (fun w' hC hd=> ?_) (by go_frame;rfl) (by simp only[List.nil_append,List.cons_append];rfl) ?_
 ·have hr:Row w' .i64 ad6 [N,W]:=hd 6 (by kernel_rfl)
  exact tame_1 40 (.slice ad6 2 cap6) rfl (fun ρ hρ hf e1=>bR (f:=177) (by go_simp) (jN (lJ ad6 cap6 [N,W] w' hr (by simp)) E6.out))
 refine dJ (wantedN rfl) (n:=3) rfl (fun w' hC hd=>tame_2 35 (.int .i64 R) 41 (.int .i64 nw) rfl rfl (fun ρ hρ hf e0 e1=>upon_row (t:=3) (cap:=3) (by go_simp))) (fun ad cap=>(by go_frame;rfl)) (fun ad=>(by simp only[List.nil_append,List.cons_append];rfl)) (fun ad8 cap8=> ?_)
 refine walkT_is (wantedN rfl) (fun w' hC hd=> ?_) (by go_frame;rfl) (by simp only[List.nil_append,List.cons_append];rfl) ?_
 ·have hr:Row w' .i64 ad8 [24,R,nw]:=hd 8 (by kernel_rfl)
  exact tame_1 42 (.slice ad8 3 cap8) rfl (fun ρ hρ hf e1=>bR (f:=176) (by go_simp) (jN (lg ad8 cap8 [24,R,nw] w' hr (by simp)) E7.out))
 refine walkT_is (wantedN rfl) (fun w' hC hd=>tame_move _ (.inl rfl) rfl) (by go_frame;rfl) (by simp only[List.nil_append,List.cons_append];rfl) ?_
 refine walkT_is (wantedN rfl) (fun w' hC hd=>tame_move _ (.inl rfl) rfl) (by go_frame;rfl) (by simp only[List.nil_append,List.cons_append];rfl) ?_
 refine walkT_is (wantedN rfl) (fun w' hC hd=>tame_move _ (.inl rfl) rfl) (by go_frame;rfl) (by simp only[List.nil_append,List.cons_append];rfl) ?_
 refine walkT_is (wantedN rfl) (fun w' hC hd=>tame_1 1 (.pointer (some ⟨w.heap.size,0,none⟩)) rfl (fun ρ hρ hf e0=>upon_is (by go_simp))) (by go_frame;rfl) (by simp only[List.nil_append,List.cons_append];rfl) ?_
 refine walkT_is (wantedN rfl) (fun w' hC hd=>tame_1 47 (.pointer (some ⟨w.heap.size,1,none⟩)) rfl (fun ρ hρ hf e0=>upon_is (by have hc0:=c1 w' hC;go_simp))) (by go_frame;rfl) (by simp only[List.nil_append,List.cons_append];rfl) ?_
 refine walkT_is (wantedN rfl) (fun w' hC hd=>tame_1 48 (.int .i64 W) rfl (fun ρ hρ hf e0=>upon_is (by have hb0:=hwr;go_simp))) (by go_frame;rfl) (by simp only[List.nil_append,List.cons_append];rfl) ?_
 refine dJ (wantedN rfl) (n:=2) rfl (fun w' hC hd=>tame_2 46 (.int .i64 (W-8)) 49 (.int .i64 (W-1)) rfl rfl (fun ρ hρ hf e0 e1=>upon_row (t:=3) (cap:=2) (by go_simp))) (fun ad cap=>(by go_frame;rfl)) (fun ad=>(by simp only[List.nil_append,List.cons_append];rfl)) (fun ad16 cap16=> ?_)
 refine walkT_is (wantedN rfl) (fun w' hC hd=> ?_) (by go_frame;rfl) (by simp only[List.nil_append,List.cons_append];rfl) ?_
 ·have hr:Row w' .i64 ad16 [W-8,W-1]:=hd 16 (by kernel_rfl)
  exact tame_1 50 (.slice ad16 2 cap16) rfl (fun ρ hρ hf e1=>bR (f:=177) (by go_simp) (jN (lJ ad16 cap16 [W-8,W-1] w' hr (by simp)) E8.out))
 refine walkT_is (wantedN rfl) (fun w' hC hd=>tame_move _ (.inl rfl) rfl) (by go_frame;rfl) (by simp only[List.nil_append,List.cons_append];rfl) ?_
 refine walkT_is (wantedN rfl) (fun w' hC hd=>tame_move _ (.inl rfl) rfl) (by go_frame;rfl) (by simp only[List.nil_append,List.cons_append];rfl) ?_
 refine walkT_is (wantedN rfl) (fun w' hC hd=>tame_move _ (.inl rfl) rfl) (by go_frame;rfl) (by simp only[List.nil_append,List.cons_append];rfl) ?_
 refine walkT_is (wantedN rfl) (fun w' hC hd=>tame_1 1 (.pointer (some ⟨w.heap.size,0,none⟩)) rfl (fun ρ hρ hf e0=>upon_is (by go_simp))) (by go_frame;rfl) (by simp only[List.nil_append,List.cons_append];rfl) ?_
 refine walkT_is (wantedN rfl) (fun w' hC hd=>tame_1 55 (.pointer (some ⟨w.heap.size,3,none⟩)) rfl (fun ρ hρ hf e0=>upon_is (by have hc0:=c3 w' hC;go_simp))) (by go_frame;rfl) (by simp only[List.nil_append,List.cons_append];rfl) ?_
 refine walkT_is (wantedN rfl) (fun w' hC hd=>tame_2 54 (.int .i64 ep) 56 (.int .i64 K) rfl rfl (fun ρ hρ hf e0 e1=>bR (f:=178) (by go_simp) (jN (Ew _ _ _) E9.out))) (by go_frame;rfl) (by simp only[List.nil_append,List.cons_append];rfl) ?_
 refine dJ (wantedN rfl) (n:=2) rfl (fun w' hC hd=>tame_1 57 (.int .i64 u1) rfl (fun ρ hρ hf e0=>upon_row (t:=3) (cap:=2) (by go_simp))) (fun ad cap=>(by go_frame;rfl)) (fun ad=>(by simp only[List.nil_append,List.cons_append];rfl)) (fun ad24 cap24=> ?_)
 refine walkT_is (wantedN rfl) (fun w' hC hd=> ?_) (by go_frame;rfl) (by simp only[List.nil_append,List.cons_append];rfl) ?_
 ·have hr:Row w' .i64 ad24 [2,u1]:=hd 24 (by kernel_rfl)
  exact tame_1 58 (.slice ad24 2 cap24) rfl (fun ρ hρ hf e1=>bR (f:=177) (by go_simp) (jN (lJ ad24 cap24 [2,u1] w' hr (by simp)) E10.out))
 refine walkT_is (wantedN rfl) (fun w' hC hd=>tame_move _ (.inl rfl) rfl) (by go_frame;rfl) (by simp only[List.nil_append,List.cons_append];rfl) ?_
 refine dJ (wantedN rfl) (n:=2) rfl (fun w' hC hd=>tame_1 60 (.int .i64 (W-7)) rfl (fun ρ hρ hf e0=>upon_row (t:=3) (cap:=2) (by go_simp))) (fun ad cap=>(by go_frame;rfl)) (fun ad=>(by simp only[List.nil_append,List.cons_append];rfl)) (fun ad27 cap27=> ?_)
 refine walkT_is (wantedN rfl) (fun w' hC hd=> ?_) (by go_frame;rfl) (by simp only[List.nil_append,List.cons_append];rfl) ?_
 ·have hr:Row w' .i64 ad27 [2,W-7]:=hd 27 (by kernel_rfl)
  exact tame_1 61 (.slice ad27 2 cap27) rfl (fun ρ hρ hf e1=>bR (f:=177) (by go_simp) (jN (lJ ad27 cap27 [2,W-7] w' hr (by simp)) E11.out))
 refine dJ (wantedN rfl) (n:=2) rfl (fun w' hC hd=>tame_2 59 (.int .i64 u2) 62 (.int .i64 b2) rfl rfl (fun ρ hρ hf e0 e1=>upon_row (t:=3) (cap:=2) (by go_simp))) (fun ad cap=>(by go_frame;rfl)) (fun ad=>(by simp only[List.nil_append,List.cons_append];rfl)) (fun ad29 cap29=> ?_)
 refine walkT_is (wantedN rfl) (fun w' hC hd=> ?_) (by go_frame;rfl) (by simp only[List.nil_append,List.cons_append];rfl) ?_
 ·have hr:Row w' .i64 ad29 [u2,b2]:=hd 29 (by kernel_rfl)
  exact tame_1 63 (.slice ad29 2 cap29) rfl (fun ρ hρ hf e1=>bR (f:=176) (by go_simp) (jN (lg ad29 cap29 [u2,b2] w' hr (by simp)) E12.out))
 refine walkT_is (wantedN rfl) (fun w' hC hd=>tame_move _ (.inl rfl) rfl) (by go_frame;rfl) (by simp only[List.nil_append,List.cons_append];rfl) ?_
 refine dJ (wantedN rfl) (n:=2) rfl (fun w' hC hd=>tame_1 65 (.int .i64 ep) rfl (fun ρ hρ hf e0=>upon_row (t:=3) (cap:=2) (by go_simp))) (fun ad cap=>(by go_frame;rfl)) (fun ad=>(by simp only[List.nil_append,List.cons_append];rfl)) (fun ad32 cap32=> ?_)
 refine walkT_is (wantedN rfl) (fun w' hC hd=> ?_) (by go_frame;rfl) (by simp only[List.nil_append,List.cons_append];rfl) ?_
 ·have hr:Row w' .i64 ad32 [2,ep]:=hd 32 (by kernel_rfl)
  exact tame_1 66 (.slice ad32 2 cap32) rfl (fun ρ hρ hf e1=>bR (f:=177) (by go_simp) (jN (lJ ad32 cap32 [2,ep] w' hr (by simp)) E13.out))
 refine walkT_is (wantedN rfl) (fun w' hC hd=>tame_move _ (.inl rfl) rfl) (by go_frame;rfl) (by simp only[List.nil_append,List.cons_append];rfl) ?_
 refine dJ (wantedN rfl) (n:=2) rfl (fun w' hC hd=>tame_2 67 (.int .i64 e2) 68 (.int .i64 d) rfl rfl (fun ρ hρ hf e0 e1=>upon_row (t:=3) (cap:=2) (by go_simp))) (fun ad cap=>(by go_frame;rfl)) (fun ad=>(by simp only[List.nil_append,List.cons_append];rfl)) (fun ad35 cap35=> ?_)
 refine walkT_is (wantedN rfl) (fun w' hC hd=> ?_) (by go_frame;rfl) (by simp only[List.nil_append,List.cons_append];rfl) ?_
 ·have hr:Row w' .i64 ad35 [e2,d]:=hd 35 (by kernel_rfl)
  exact tame_1 69 (.slice ad35 2 cap35) rfl (fun ρ hρ hf e1=>bR (f:=176) (by go_simp) (jN (lg ad35 cap35 [e2,d] w' hr (by simp)) E14.out))
 refine walkT_is (wantedN rfl) (fun w' hC hd=>tame_1 1 (.pointer (some ⟨w.heap.size,0,none⟩)) rfl (fun ρ hρ hf e0=>upon_is (by go_simp))) (by go_frame;rfl) (by simp only[List.nil_append,List.cons_append];rfl) ?_
 refine walkT_is (wantedN rfl) (fun w' hC hd=>tame_1 71 (.pointer (some ⟨w.heap.size,3,none⟩)) rfl (fun ρ hρ hf e0=>upon_is (by have hc0:=c3 w' hC;go_simp))) (by go_frame;rfl) (by simp only[List.nil_append,List.cons_append];rfl) ?_
 refine walkT_is (wantedN rfl) (fun w' hC hd=>tame_2 70 (.int .i64 s1) 72 (.int .i64 K) rfl rfl (fun ρ hρ hf e0 e1=>bR (f:=178) (by go_simp) (jN (Ew _ _ _) E15.out))) (by go_frame;rfl) (by simp only[List.nil_append,List.cons_append];rfl) ?_
 refine dJ (wantedN rfl) (n:=2) rfl (fun w' hC hd=>tame_1 73 (.int .i64 u3) rfl (fun ρ hρ hf e0=>upon_row (t:=3) (cap:=2) (by go_simp))) (fun ad cap=>(by go_frame;rfl)) (fun ad=>(by simp only[List.nil_append,List.cons_append];rfl)) (fun ad40 cap40=> ?_)
 refine walkT_is (wantedN rfl) (fun w' hC hd=> ?_) (by go_frame;rfl) (by simp only[List.nil_append,List.cons_append];rfl) ?_
 ·have hr:Row w' .i64 ad40 [u3,2]:=hd 40 (by kernel_rfl)
  exact tame_1 74 (.slice ad40 2 cap40) rfl (fun ρ hρ hf e1=>bR (f:=176) (by go_simp) (jN (lg ad40 cap40 [u3,2] w' hr (by simp)) E16.out))
 refine walkT_is (wantedN rfl) (fun w' hC hd=>KA 43 (.int .i64 words) 44 (.int .i64 (W-8)) 45 (.int .i64 (W-7)) 51 (.int .i64 fields) 52 (.int .i64 ep) 53 (.int .i64 d) 64 (.int .i64 lag) 75 (.int .i64 settle) rfl rfl rfl rfl rfl rfl rfl rfl (fun ρ hρ hf e0 e1 e2 e3 e4 e5 e6 e7=>upon_is (by go_simp))) (by go_frame;rfl) (by simp only[List.nil_append,List.cons_append];rfl) ?_
 refine walkT_nil fun w5 hC5 _=>hK _ _ ?_
 have hb5:=HB4.out.trans (hC5.mono HB4.out.size)
 clear c0 c1 c2 c3 HB4 hC5 hwr
 show wpList _ _ _ [_,_] _ _
 obtain⟨hc,hf⟩:=EJ hb5
 have hz5:w.heap.size+1<w5.heap.size:=by have:=hb5.size;simp at this;omega
 have HB5:=hid hb5
 clear hb5
 go_wp2_with fail
 exact bodyPost_ret (v:=.tuple #[.agg #[.int .i64 words,.int .i64 (W-8),.int .i64 (W-7),.int .i64 fields,.int .i64 ep,.int .i64 d,.int .i64 lag,.int .i64 settle],.int .i64 0]) (by simp[results,Tryz.results122,go_sem,hc,hz5]) rfl ⟨rfl,by
  repeat refine Below.setCell ?_ (by simp) _
  exact((below_new w _).alloc (by simp) _).trans (HB5.out.mono (by simp;omega))⟩
def Fp(N W R K:Int):Value:=.agg #[.int .i64 (zN N W R),.int .i64 (W-8),.int .i64 (W-7),.int .i64 (au W),.int .i64 (gq N W),.int .i64 (gI N W),.int .i64 (NL N W K),.int .i64 (zk N W K)]
theorem NV(N W R K:Int)(w:World)(h:May N W R K):
  Calls Tryz.prog 122 #[.agg #[.int .i64 N,.int .i64 W,.int .i64 R,.int .i64 K]] w fun e w'=>e=.returned (.tuple #[Fp N W R K,.int .i64 0])∧Below w.heap.size w w':=by
 have n0:=h.n0;have n1:=h.n1;have w0:=h.w0;have w1:=h.w1;have r0:=h.r0;have r1:=h.r1;have k0:=h.k0;have k1:=h.k1
 have hnw:=Fq h
 have hd:=Ai h
 have he:=Jf h
 have hf:=bQ w0 w1
 have hu:=Ev (a:=gq N W) (b:=K) (by omega) k0
 have hv:=Ev (a:=2*gq N W+gI N W) (b:=K) (by omega) k0
 have m2:∀x:Int,0≤x→x≤100000000→jO [2,x]=2*x:=fun x h0 h1=>jU (by omega) h0 (by omega) (by omega) (by omega)
 exact Ml N W R K (W+1) (gI N W) (3*gI N W) (gq N W) (N*W) (zN N W R) (au W) (CW (gq N W) K) (2*CW (gq N W) K) (2*(W-7)) (NL N W K) (2*gq N W) (2*gq N W+gI N W) (CW (2*gq N W+gI N W) K) (zk N W K) w (hid h) w0 w1
  (hid (by rw[kZ (by omega) (by omega) (by omega)];omega)) (hid (kZ (by omega) (by omega) (by omega))) (hid (jU (by omega) (by omega) (by omega) (by omega) (by have:N*(W+1)=gI N W:=rfl;omega)))
  (hid (jU (by omega) (by omega) (by omega) (by omega) (by omega))) (hid (kZ (by omega) (by omega) (by omega))) (hid (jU (by omega) (by omega) (by omega) (by omega) (by omega)))
  (hid (Ll (by omega) (by omega) (by omega) (by omega))) (hid (jU (by omega) (by omega) (by omega) (by omega) (by have:(W-8)*(W-1)=au W:=rfl;omega)))
  (hid (KN (by omega) (by omega) k0 (by omega))) (hid (m2 _ (by omega) (by omega))) (hid (m2 _ (by omega) (by omega))) (hid (kZ (by omega) (by omega) (by omega))) (hid (m2 _ (by omega) (by omega))) (hid (kZ (by omega) (by omega) (by omega)))
  (hid (KN (by omega) (by omega) k0 (by omega))) (hid (kZ (by omega) (by omega) (by omega)))
theorem QS{N W R K:Int}{v:Value}(w:World)(h:May N W R K)(hv:Fp N W R K=v):
  Calls Tryz.prog 122 #[.agg #[.int .i64 N,.int .i64 W,.int .i64 R,.int .i64 K]] w fun e w'=>e=.returned (.tuple #[v,.int .i64 0])∧Below w.heap.size w w':=hv▸NV N W R K w h
end Go.Proofs.YtbhhfnlkpieebaaGreat.Pk
