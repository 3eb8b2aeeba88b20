/-
  Tag: The program's tags: each function's contract, whatever it is given.
  Tag2: The program's tags: are they right, their words, what words say, names.
  Tag3: The program's tags: what words say.
-/
import Derived.Test.YtjmifnljckmimaaGreatBaseEtc
import Derived.Test.YtjmifnljckmimaaGreatBaseEtc
import Derived.LoopN
import Derived.ChangeKeysEq
namespace Go.Proofs.YtjmifnljckmimaaGreat.Pk
open Lib (hid)
open Go.RowKit
set_option linter.unusedVariables false
set_option linter.unusedSimpArgs false
theorem aF(n b:Int)(w:World):Calls Tryz.prog 226 #[.int .i64 n,.int .i64 b] w fun e w'=>e=.returned (.bool (iZ n b))∧w=w':=by
 by_cases h1:0≤n
 ·by_cases h2:n<b
  ·have h3:=Pq ⟨h1,h2⟩
   go_enter Tryz.func226,Tryz.ntmps226
   go_wp2
   go_ret
   first|exact⟨rfl,rfl⟩|exact⟨aH h3.symm,rfl⟩
  ·have h3:=Gz (n:=n) (b:=b) (fun h=>h2 h.2)
   go_enter Tryz.func226,Tryz.ntmps226
   go_wp2
   go_ret
   first|exact⟨rfl,rfl⟩|exact⟨aH h3.symm,rfl⟩
 ·have h3:=Gz (n:=n) (b:=b) (fun h=>h1 h.1)
  go_enter Tryz.func226,Tryz.ntmps226
  go_wp2
  go_ret
  first|exact⟨rfl,rfl⟩|exact⟨aH h3.symm,rfl⟩
theorem kv(b:Nat)(x a n v:Int)(w:World)(hb:Blk w b #[.int .u32 x] 119)(h0:0≤x)(h1:x≤4294967295)(hv0:0≤v)(hv1:v≤4294967295):
  Calls Tryz.prog 208 #[.int .i64 a,.int .i64 n,.int .i64 v,.pointer (some ⟨b,0,none⟩)] w fun e w'=>e=.returned (.tuple #[])∧Blk w' b #[.int .u32 (qW x a n v)] 119∧Touch (fun i=>i=b) w w':=by
 have c0:=hb.cell 0 rfl
 have f0:=hb.free 0
 have HB:=hid hb
 clear hb
 go_enter Tryz.func208,Tryz.ntmps208
 go_wp2_with fail
 refine(NL x a n v _ h0 h1 hv0 hv1).mono ?_
 rintro e w1 ⟨rfl,m,rfl⟩
 go_wp2_with fail
 go_end0
 exact⟨rfl,(HB.out.drewN m).put 0 _ rfl,((Touch.refl (fun i=>i=b) w).drewN m).setCell (p:=⟨b,0,none⟩) (fun _=>rfl) _⟩
theorem ik(b:Nat)(x a n:Int)(w:World)(hb:Blk w b #[.int .u32 x] 119)(h0:0≤x)(h1:x≤4294967295):
  Calls Tryz.prog 204 #[.int .i64 a,.int .i64 n,.pointer (some ⟨b,0,none⟩)] w fun e w'=>e=.returned (.int .i64 (gL x a n))∧Drw w w':=by
 have c0:=hb.cell 0 rfl
 have g0:=MW (w:=x) (a:=a) (n:=n) h0
 have g1:=MV (w:=x) (a:=a) (n:=n) h0 h1
 clear hb
 go_enter Tryz.func204,Tryz.ntmps204
 go_wp2_with fail
 refine(Na x a n _ h0 h1).mono ?_
 rintro e w1 ⟨rfl,m,rfl⟩
 go_wp2_with fail
 go_ret
 exact⟨rfl,m,rfl⟩
theorem lT(a b c d e:Int)(w:World):(Instr.index 193 (.agg #[.int .i64 a,.int .i64 b,.int .i64 c,.int .i64 d,.int .i64 e]) (.int .i64 0)).run Tryz.prog w=.ok (.int .i64 a) w:=by kernel_rfl
theorem oC(a b c d e:Int)(w:World):(Instr.index 193 (.agg #[.int .i64 a,.int .i64 b,.int .i64 c,.int .i64 d,.int .i64 e]) (.int .i64 1)).run Tryz.prog w=.ok (.int .i64 b) w:=by kernel_rfl
theorem qo(a b c d e:Int)(w:World):(Instr.index 193 (.agg #[.int .i64 a,.int .i64 b,.int .i64 c,.int .i64 d,.int .i64 e]) (.int .i64 2)).run Tryz.prog w=.ok (.int .i64 c) w:=by kernel_rfl
theorem uF(a b c d e:Int)(w:World):(Instr.index 193 (.agg #[.int .i64 a,.int .i64 b,.int .i64 c,.int .i64 d,.int .i64 e]) (.int .i64 3)).run Tryz.prog w=.ok (.int .i64 d) w:=by kernel_rfl
theorem zF(a b c d e:Int)(w:World):(Instr.index 193 (.agg #[.int .i64 a,.int .i64 b,.int .i64 c,.int .i64 d,.int .i64 e]) (.int .i64 4)).run Tryz.prog w=.ok (.int .i64 e) w:=by kernel_rfl
theorem JY(c n s d g:Int)(w:World):(binOp .eql 193 (.agg #[.int .i64 c,.int .i64 n,.int .i64 s,.int .i64 d,.int .i64 g]) (.agg #[.int .i64 0,.int .i64 0,.int .i64 0,.int .i64 0,.int .i64 0])).run Tryz.prog w=.ok (.bool (pJ c n s d g)) w:=by
 obtain⟨i0,hi,_⟩:=info_parts (show(Tryz.prog.info? 3).map (fun i=>(i.zero,i.size,i.bytes))=some (some (.int .i64 0),1,8) by kernel_rfl)
 have h1:Tryz.prog.cellsOf 3=1:=by kernel_rfl
 rw[run_eql_struct,show(10000:Nat)=9999+1 from rfl,run_equalIn_array w 9999 _ _ Tryz.underlying193 hi,h1,show List.range 5=[0,1,2,3,4] from rfl]
 have u:=Tryz.underlying3
 have e1:∀(a:Int) (w:World),(Op.equalIn 9999 3 (.int .i64 a) (.int .i64 0)).run Tryz.prog w=.ok (a==0) w:=fun a w=>run_equalIn_int w 9998 3 .i64 .i64 a 0 u
 have pp:∀(a b c d e:Int) (w:World),(Go.part 3 #[.int .i64 a,.int .i64 b,.int .i64 c,.int .i64 d,.int .i64 e] (0*1)).run Tryz.prog w=.ok (.int .i64 a) w∧(Go.part 3 #[.int .i64 a,.int .i64 b,.int .i64 c,.int .i64 d,.int .i64 e] (1*1)).run Tryz.prog w=.ok (.int .i64 b) w∧(Go.part 3 #[.int .i64 a,.int .i64 b,.int .i64 c,.int .i64 d,.int .i64 e] (2*1)).run Tryz.prog w=.ok (.int .i64 c) w∧(Go.part 3 #[.int .i64 a,.int .i64 b,.int .i64 c,.int .i64 d,.int .i64 e] (3*1)).run Tryz.prog w=.ok (.int .i64 d) w∧(Go.part 3 #[.int .i64 a,.int .i64 b,.int .i64 c,.int .i64 d,.int .i64 e] (4*1)).run Tryz.prog w=.ok (.int .i64 e) w:=
  fun a b c d e w=>⟨by kernel_rfl,by kernel_rfl,by kernel_rfl,by kernel_rfl,by kernel_rfl⟩
 have q0:=fun a b c d e w=>(pp a b c d e w).1
 have q1:=fun a b c d e w=>(pp a b c d e w).2.1
 have q2:=fun a b c d e w=>(pp a b c d e w).2.2.1
 have q3:=fun a b c d e w=>(pp a b c d e w).2.2.2.1
 have q4:=fun a b c d e w=>(pp a b c d e w).2.2.2.2
 simp only[Op.eqItems,Sem.run_bind,q0,q1,q2,q3,q4,e1,Result.andThen_ok,Sem.run_ite,Sem.run_pure]
 clear pp q0 q1 q2 q3 q4 e1
 unfold pJ
 by_cases h0:c=0
 ·by_cases h1:n=0
  ·by_cases h2:s=0
   ·by_cases h3:d=0
    ·by_cases h4:g=0
     ·subst h0 h1 h2 h3 h4;simp
     ·subst h0 h1 h2 h3;simp[h4]
    ·subst h0 h1 h2;simp[h3]
   ·subst h0 h1;simp[h2]
  ·subst h0;simp[h1]
 ·simp[h0]
theorem kF(k c n s d g o:Int)(w:World):
  Calls Tryz.prog 210 #[.agg #[.int .i64 k,.int .i64 c,.int .i64 n,.int .i64 s,.int .i64 d,.int .i64 g,.int .i64 o]] w fun e w'=>e=.returned (.agg #[.int .i64 c,.int .i64 n,.int .i64 s,.int .i64 d,.int .i64 g])∧Below w.heap.size w w':=by
 go_enter Tryz.func210,Tryz.ntmps210
 go_wp2_with fail
 exact bodyPost_ret (v:=.agg #[.int .i64 c,.int .i64 n,.int .i64 s,.int .i64 d,.int .i64 g]) (by simp[results,Tryz.results210,go_sem]) rfl ⟨rfl,by
  repeat refine Below.setCell ?_ (by simp) _
  exact(below_new w _).alloc (by simp) _⟩
theorem BJ(c n s d g:Int)(w:World)(hc:iZ c 2=true)(hn:iZ n 2=true)(hs:iZ s 2=true)(hd:iZ d 2=true)(hg:iZ g 2=true):
  Calls Tryz.prog 227 #[.agg #[.int .i64 c,.int .i64 n,.int .i64 s,.int .i64 d,.int .i64 g]] w fun e w'=>e=.returned (.bool true)∧Below w.heap.size w w':=by
 have x0:=lT c n s d g
 have x1:=oC c n s d g
 have x2:=qo c n s d g
 have x3:=uF c n s d g
 have x4:=zF c n s d g
 go_enter Tryz.func227,Tryz.ntmps227
 go_wp2_with fail
 refine wp_loop_rounds 6 ?_
 rw[rounds_succ]
 go_wp2_with fail
 refine(aF _ _ _).mono ?_
 rintro e w1 ⟨rfl,rfl⟩
 go_wp2_with fail
 rw[rounds_succ]
 go_wp2_with fail
 refine(aF _ _ _).mono ?_
 rintro e w1 ⟨rfl,rfl⟩
 go_wp2_with fail
 rw[rounds_succ]
 go_wp2_with fail
 refine(aF _ _ _).mono ?_
 rintro e w1 ⟨rfl,rfl⟩
 go_wp2_with fail
 rw[rounds_succ]
 go_wp2_with fail
 refine(aF _ _ _).mono ?_
 rintro e w1 ⟨rfl,rfl⟩
 go_wp2_with fail
 rw[rounds_succ]
 go_wp2_with fail
 refine(aF _ _ _).mono ?_
 rintro e w1 ⟨rfl,rfl⟩
 go_wp2_with fail
 rw[rounds_succ]
 go_wp2_with fail
 go_ret
 exact⟨rfl,below_new w _⟩
theorem BD (c n s d g : Int) (w : World)  (hc : iZ c 2 = false) :
  Calls Tryz.prog 227 #[.agg #[.int .i64 c,.int .i64 n,.int .i64 s,.int .i64 d,.int .i64 g]] w fun e w'=>e=.returned (.bool false)∧Below w.heap.size w w':=by
 have x0:=lT c n s d g
 go_enter Tryz.func227,Tryz.ntmps227
 go_wp2_with fail
 refine wp_loop_rounds 6 ?_
 rw[rounds_succ]
 go_wp2_with fail
 refine(aF _ _ _).mono ?_
 rintro e w1 ⟨rfl,rfl⟩
 go_wp2_with fail
 go_ret
 exact⟨rfl,below_new w _⟩
theorem BF(c n s d g:Int)(w:World)(hc:iZ c 2=true)(hn:iZ n 2=false):
  Calls Tryz.prog 227 #[.agg #[.int .i64 c,.int .i64 n,.int .i64 s,.int .i64 d,.int .i64 g]] w fun e w'=>e=.returned (.bool false)∧Below w.heap.size w w':=by
 have x0:=lT c n s d g
 have x1:=oC c n s d g
 go_enter Tryz.func227,Tryz.ntmps227
 go_wp2_with fail
 refine wp_loop_rounds 6 ?_
 rw[rounds_succ]
 go_wp2_with fail
 refine(aF _ _ _).mono ?_
 rintro e w1 ⟨rfl,rfl⟩
 go_wp2_with fail
 rw[rounds_succ]
 go_wp2_with fail
 refine(aF _ _ _).mono ?_
 rintro e w1 ⟨rfl,rfl⟩
 go_wp2_with fail
 go_ret
 exact⟨rfl,below_new w _⟩
theorem BG(c n s d g:Int)(w:World)(hc:iZ c 2=true)(hn:iZ n 2=true)(hs:iZ s 2=false):
  Calls Tryz.prog 227 #[.agg #[.int .i64 c,.int .i64 n,.int .i64 s,.int .i64 d,.int .i64 g]] w fun e w'=>e=.returned (.bool false)∧Below w.heap.size w w':=by
 have x0:=lT c n s d g
 have x1:=oC c n s d g
 have x2:=qo c n s d g
 go_enter Tryz.func227,Tryz.ntmps227
 go_wp2_with fail
 refine wp_loop_rounds 6 ?_
 rw[rounds_succ]
 go_wp2_with fail
 refine(aF _ _ _).mono ?_
 rintro e w1 ⟨rfl,rfl⟩
 go_wp2_with fail
 rw[rounds_succ]
 go_wp2_with fail
 refine(aF _ _ _).mono ?_
 rintro e w1 ⟨rfl,rfl⟩
 go_wp2_with fail
 rw[rounds_succ]
 go_wp2_with fail
 refine(aF _ _ _).mono ?_
 rintro e w1 ⟨rfl,rfl⟩
 go_wp2_with fail
 go_ret
 exact⟨rfl,below_new w _⟩
theorem BH(c n s d g:Int)(w:World)(hc:iZ c 2=true)(hn:iZ n 2=true)(hs:iZ s 2=true)(hd:iZ d 2=false):
  Calls Tryz.prog 227 #[.agg #[.int .i64 c,.int .i64 n,.int .i64 s,.int .i64 d,.int .i64 g]] w fun e w'=>e=.returned (.bool false)∧Below w.heap.size w w':=by
 have x0:=lT c n s d g
 have x1:=oC c n s d g
 have x2:=qo c n s d g
 have x3:=uF c n s d g
 go_enter Tryz.func227,Tryz.ntmps227
 go_wp2_with fail
 refine wp_loop_rounds 6 ?_
 rw[rounds_succ]
 go_wp2_with fail
 refine(aF _ _ _).mono ?_
 rintro e w1 ⟨rfl,rfl⟩
 go_wp2_with fail
 rw[rounds_succ]
 go_wp2_with fail
 refine(aF _ _ _).mono ?_
 rintro e w1 ⟨rfl,rfl⟩
 go_wp2_with fail
 rw[rounds_succ]
 go_wp2_with fail
 refine(aF _ _ _).mono ?_
 rintro e w1 ⟨rfl,rfl⟩
 go_wp2_with fail
 rw[rounds_succ]
 go_wp2_with fail
 refine(aF _ _ _).mono ?_
 rintro e w1 ⟨rfl,rfl⟩
 go_wp2_with fail
 go_ret
 exact⟨rfl,below_new w _⟩
theorem BI(c n s d g:Int)(w:World)(hc:iZ c 2=true)(hn:iZ n 2=true)(hs:iZ s 2=true)(hd:iZ d 2=true)(hg:iZ g 2=false):
  Calls Tryz.prog 227 #[.agg #[.int .i64 c,.int .i64 n,.int .i64 s,.int .i64 d,.int .i64 g]] w fun e w'=>e=.returned (.bool false)∧Below w.heap.size w w':=by
 have x0:=lT c n s d g
 have x1:=oC c n s d g
 have x2:=qo c n s d g
 have x3:=uF c n s d g
 have x4:=zF c n s d g
 go_enter Tryz.func227,Tryz.ntmps227
 go_wp2_with fail
 refine wp_loop_rounds 6 ?_
 rw[rounds_succ]
 go_wp2_with fail
 refine(aF _ _ _).mono ?_
 rintro e w1 ⟨rfl,rfl⟩
 go_wp2_with fail
 rw[rounds_succ]
 go_wp2_with fail
 refine(aF _ _ _).mono ?_
 rintro e w1 ⟨rfl,rfl⟩
 go_wp2_with fail
 rw[rounds_succ]
 go_wp2_with fail
 refine(aF _ _ _).mono ?_
 rintro e w1 ⟨rfl,rfl⟩
 go_wp2_with fail
 rw[rounds_succ]
 go_wp2_with fail
 refine(aF _ _ _).mono ?_
 rintro e w1 ⟨rfl,rfl⟩
 go_wp2_with fail
 rw[rounds_succ]
 go_wp2_with fail
 refine(aF _ _ _).mono ?_
 rintro e w1 ⟨rfl,rfl⟩
 go_wp2_with fail
 go_ret
 exact⟨rfl,below_new w _⟩
theorem BC(c n s d g:Int)(w:World):
  Calls Tryz.prog 227 #[.agg #[.int .i64 c,.int .i64 n,.int .i64 s,.int .i64 d,.int .i64 g]] w fun e w'=>e=.returned (.bool (sW c n s d g))∧Below w.heap.size w w':=by
 unfold sW
 cases hc:iZ c 2 with
 |false=>exact BD c n s d g w hc
 |true=>
  cases hn:iZ n 2 with
  |false=>exact BF c n s d g w hc hn
  |true=>
   cases hs:iZ s 2 with
   |false=>exact BG c n s d g w hc hn hs
   |true=>
    cases hd:iZ d 2 with
    |false=>exact BH c n s d g w hc hn hs hd
    |true=>
     cases hg:iZ g 2 with
     |false=>exact BI c n s d g w hc hn hs hd hg
     |true=>exact BJ c n s d g w hc hn hs hd hg
theorem Ml(k c n s d g o:Int)(w:World)(h:iZ k 4=false):
  Calls Tryz.prog 207 #[.agg #[.int .i64 k,.int .i64 c,.int .i64 n,.int .i64 s,.int .i64 d,.int .i64 g,.int .i64 o]] w fun e w'=>e=.returned (.bool false)∧Below w.heap.size w w':=by
 go_enter Tryz.func207,Tryz.ntmps207
 go_wp2_with fail
 refine(aF _ _ _).mono ?_
 rintro e w1 ⟨rfl,rfl⟩
 go_wp2_with fail
 go_ret
 exact⟨rfl,below_new w _⟩
theorem Mm(k c n s d g o:Int)(w:World)(hk:iZ k 4=true)(h:iZ o 1048576=false):
  Calls Tryz.prog 207 #[.agg #[.int .i64 k,.int .i64 c,.int .i64 n,.int .i64 s,.int .i64 d,.int .i64 g,.int .i64 o]] w fun e w'=>e=.returned (.bool false)∧Below w.heap.size w w':=by
 go_enter Tryz.func207,Tryz.ntmps207
 go_wp2_with fail
 refine(aF _ _ _).mono ?_
 rintro e w1 ⟨rfl,rfl⟩
 go_wp2_with fail
 refine(aF _ _ _).mono ?_
 rintro e w1 ⟨rfl,rfl⟩
 go_wp2_with fail
 go_ret
 exact⟨rfl,below_new w _⟩
theorem Js(k c n s d g o:Int)(w:World)(hk:iZ k 4=true)(h:iZ o 1048576=true)(h3:¬k=3)(h0:¬o=0):
  Calls Tryz.prog 207 #[.agg #[.int .i64 k,.int .i64 c,.int .i64 n,.int .i64 s,.int .i64 d,.int .i64 g,.int .i64 o]] w fun e w'=>e=.returned (.bool false)∧Below w.heap.size w w':=by
 have b3:(k !=3)=true:=by simp[h3]
 have b0:(o !=0)=true:=by simp[h0]
 go_enter Tryz.func207,Tryz.ntmps207
 go_wp2_with fail
 refine(aF _ _ _).mono ?_
 rintro e w1 ⟨rfl,rfl⟩
 go_wp2_with fail
 refine(aF _ _ _).mono ?_
 rintro e w1 ⟨rfl,rfl⟩
 go_wp2_with fail
 go_ret
 exact⟨rfl,below_new w _⟩
theorem Mk(c n s d g o:Int)(w:World)(hk:iZ 3 4=true)(h:iZ o 1048576=true):
  Calls Tryz.prog 207 #[.agg #[.int .i64 3,.int .i64 c,.int .i64 n,.int .i64 s,.int .i64 d,.int .i64 g,.int .i64 o]] w fun e w'=>e=.returned (.bool (pJ c n s d g))∧Below w.heap.size w w':=by
 have q:=JY c n s d g
 go_enter Tryz.func207,Tryz.ntmps207
 go_wp2_with fail
 refine(aF _ _ _).mono ?_
 rintro e w1 ⟨rfl,rfl⟩
 go_wp2_with fail
 refine(aF _ _ _).mono ?_
 rintro e w1 ⟨rfl,rfl⟩
 go_wp2_with fail
 refine(kF _ _ _ _ _ _ _ _).mono ?_
 rintro e w2 ⟨rfl,hb⟩
 have HB:=hid hb
 have hz:w.heap.size<w2.heap.size:=by have:=hb.size;simp at this;omega
 have hBk:=(Blk.new w _ _).later hb
 have hc:=hBk.cell 0 rfl
 clear hBk
 clear hb
 go_wp2_with fail
 go_ret
 exact⟨rfl,(below_step (below_new w _) HB.out).trans ((below_new w2 _).mono (by have:=HB.out.size;simp at this;omega))⟩
theorem Mj(c n s d g:Int)(w:World)(hk:iZ 0 4=true)(h:iZ 0 1048576=true):
  Calls Tryz.prog 207 #[.agg #[.int .i64 0,.int .i64 c,.int .i64 n,.int .i64 s,.int .i64 d,.int .i64 g,.int .i64 0]] w fun e w'=>e=.returned (.bool (pJ c n s d g))∧Below w.heap.size w w':=by
 have q:=JY c n s d g
 go_enter Tryz.func207,Tryz.ntmps207
 go_wp2_with fail
 refine(aF _ _ _).mono ?_
 rintro e w1 ⟨rfl,rfl⟩
 go_wp2_with fail
 refine(aF _ _ _).mono ?_
 rintro e w1 ⟨rfl,rfl⟩
 go_wp2_with fail
 refine(kF _ _ _ _ _ _ _ _).mono ?_
 rintro e w2 ⟨rfl,hb⟩
 have HB:=hid hb
 have hz:w.heap.size<w2.heap.size:=by have:=hb.size;simp at this;omega
 have hBk:=(Blk.new w _ _).later hb
 have hc:=hBk.cell 0 rfl
 clear hBk
 clear hb
 go_wp2_with fail
 go_ret
 exact⟨rfl,(below_step (below_new w _) HB.out).trans ((below_new w2 _).mono (by have:=HB.out.size;simp at this;omega))⟩
theorem Mo(k c n s d g:Int)(w:World)(hk:iZ k 4=true)(h:iZ 0 1048576=true)(h0:¬k=0)(h3:¬k=3):
  Calls Tryz.prog 207 #[.agg #[.int .i64 k,.int .i64 c,.int .i64 n,.int .i64 s,.int .i64 d,.int .i64 g,.int .i64 0]] w fun e w'=>e=.returned (.bool (sW c n s d g))∧Below w.heap.size w w':=by
 have b3:(k !=3)=true:=by simp[h3]
 have b4:(k==3)=false:=by simp[h3]
 have b0:(k==0)=false:=by simp[h0]
 go_enter Tryz.func207,Tryz.ntmps207
 go_wp2_with fail
 refine(aF _ _ _).mono ?_
 rintro e w1 ⟨rfl,rfl⟩
 go_wp2_with fail
 refine(aF _ _ _).mono ?_
 rintro e w1 ⟨rfl,rfl⟩
 go_wp2_with fail
 refine(kF _ _ _ _ _ _ _ _).mono ?_
 rintro e w2 ⟨rfl,hb⟩
 have HB:=hid hb
 have hz:w.heap.size<w2.heap.size:=by have:=hb.size;simp at this;omega
 have hBk:=(Blk.new w _ _).later hb
 have hc:=hBk.cell 0 rfl
 clear hBk
 clear hb
 go_wp2_with fail
 refine(BC _ _ _ _ _ _).mono ?_
 rintro e w3 ⟨rfl,hb3⟩
 have HB3:=hid hb3
 clear hb3
 go_wp2_with fail
 go_ret
 exact⟨rfl,below_step (below_step (below_step (below_new w _) HB.out) (below_new w2 _)) HB3.out⟩
theorem FW(k c n s d g o:Int)(w:World):
  Calls Tryz.prog 207 #[.agg #[.int .i64 k,.int .i64 c,.int .i64 n,.int .i64 s,.int .i64 d,.int .i64 g,.int .i64 o]] w fun e w'=>e=.returned (.bool (dz k c n s d g o))∧Below w.heap.size w w':=by
 cases hk:iZ k 4 with
 |false=>rw[Re hk];exact Ml k c n s d g o w hk
 |true=>
  cases ho:iZ o 1048576 with
  |false=>rw[Rf ho];exact Mm k c n s d g o w hk ho
  |true=>
   by_cases h3:k=3
   ·subst h3;rw[Rc ho];exact Mk c n s d g o w hk ho
   ·by_cases h0:o=0
    ·subst h0
     by_cases hk0:k=0
     ·subst hk0;rw[Rb];exact Mj c n s d g w hk ho
     ·rw[Rh hk hk0 h3];exact Mo k c n s d g w hk ho hk0 h3
    ·rw[Qf h3 h0];exact Js k c n s d g o w hk ho h3 h0
theorem fT{a w w':World}{b:Nat}(h:Below a.heap.size a w)(t:Touch (fun i=>i=b) w w')(hb:a.heap.size≤b):Below a.heap.size a w':=
 h.trans (t.below (fun i hi=>by have:i=b:=hi;omega) h.size)
set_option maxHeartbeats 1000000 in
theorem eY(k c n s d g o:Int)(w:World)(hr:dz k c n s d g o=true):
  Calls Tryz.prog 173 #[.agg #[.int .i64 k,.int .i64 c,.int .i64 n,.int .i64 s,.int .i64 d,.int .i64 g,.int .i64 o]] w fun e w'=>e=.returned (.tuple #[.int .u32 (bZ k c n s d g o),.int .i64 0])∧Below w.heap.size w w':=by
 have hmf:∀(fn:Fn) (first cap:Array Value) (w:World),(Instr.makeFunc fn first cap).run Tryz.prog w=.ok (.func fn first cap) w:=fun _ _ _ _=>rfl
 have RT:=wB hr
 have HP:=hid (PU RT)
 obtain⟨⟨k0,k1⟩,⟨o0,o1⟩,_,⟨c0,c1⟩,⟨n0,n1⟩,⟨s0,s1⟩,⟨d0,d1⟩,⟨g0,g1⟩,_⟩:=RT
 have x0:=lT c n s d g
 have x1:=oC c n s d g
 have x2:=qo c n s d g
 have x3:=uF c n s d g
 have x4:=zF c n s d g
 go_enter Tryz.func173,Tryz.ntmps173
 go_wp2_with fail
 refine(FW _ _ _ _ _ _ _ _).mono ?_
 rintro e w1 ⟨rfl,hb⟩
 have HB:=hid (below_step (below_new w _) hb)
 have hz:w.heap.size<w1.heap.size:=by have:=hb.size;simp at this;omega
 have HT:=hid ((Blk.new w _ _).later hb)
 have t0:=HT.out.cell 0 rfl
 have t6:=HT.out.cell 6 rfl
 clear hb
 go_wp2_with fail
 refine(kv w1.heap.size 0 0 2 k _ (Blk.new w1 _ _) (by decide) (by decide) (by omega) (by omega)).mono ?_
 rintro e w2 ⟨rfl,hW,hT⟩
 have HW:=hid (show Blk w2 w1.heap.size #[.int .u32 (PO k)] 119 from hW)
 have HB2:=hid (fT (below_step HB.out (below_new w1 _)) hT (by omega))
 have HT2:=hid ((HT.out.alloc _).touch hT (by omega))
 clear hW hT t0 t6 HB HT
 have t0:=HT2.out.cell 0 rfl
 have t1:=HT2.out.cell 1 rfl
 have t2:=HT2.out.cell 2 rfl
 have t3:=HT2.out.cell 3 rfl
 have t4:=HT2.out.cell 4 rfl
 have t5:=HT2.out.cell 5 rfl
 have t6:=HT2.out.cell 6 rfl
 go_wp2_with fail
 refine(kF _ _ _ _ _ _ _ _).mono ?_
 rintro e w3 ⟨rfl,hb⟩
 have HB3:=hid (below_step HB2.out hb)
 have HT3:=hid (HT2.out.later hb)
 have HW3:=hid (HW.out.later hb)
 clear hb HW HB2 HT2 t0 t1 t2 t3 t4 t5 t6
 go_wp2_with fail
 refine wp_loop_rounds 6 ?_
 rw[rounds_succ]
 go_wp2_with fail
 refine(kv w1.heap.size (PO k) 2 1 c _ HW3.out (HP.out.2.1.1) (HP.out.2.1.2) (by omega) (by omega)).mono ?_
 rintro e w4 ⟨rfl,hW,hT⟩
 have HW4:=hid (show Blk w4 w1.heap.size #[.int .u32 (PP k c)] 119 from hW)
 have HB4:=hid (fT HB3.out hT (by omega))
 have HT4:=hid (HT3.out.touch hT (by omega))
 clear hW hT HW3 HB3 HT3
 go_wp2_with fail
 rw[rounds_succ]
 go_wp2_with fail
 refine(kv w1.heap.size (PP k c) 3 1 n _ HW4.out (HP.out.2.2.1.1) (HP.out.2.2.1.2) (by omega) (by omega)).mono ?_
 rintro e w5 ⟨rfl,hW,hT⟩
 have HW5:=hid (show Blk w5 w1.heap.size #[.int .u32 (PQ k c n)] 119 from hW)
 have HB5:=hid (fT HB4.out hT (by omega))
 have HT5:=hid (HT4.out.touch hT (by omega))
 clear hW hT HW4 HB4 HT4
 go_wp2_with fail
 rw[rounds_succ]
 go_wp2_with fail
 refine(kv w1.heap.size (PQ k c n) 4 1 s _ HW5.out (HP.out.2.2.2.1.1) (HP.out.2.2.2.1.2) (by omega) (by omega)).mono ?_
 rintro e w6 ⟨rfl,hW,hT⟩
 have HW6:=hid (show Blk w6 w1.heap.size #[.int .u32 (PR k c n s)] 119 from hW)
 have HB6:=hid (fT HB5.out hT (by omega))
 have HT6:=hid (HT5.out.touch hT (by omega))
 clear hW hT HW5 HB5 HT5
 go_wp2_with fail
 rw[rounds_succ]
 go_wp2_with fail
 refine(kv w1.heap.size (PR k c n s) 5 1 d _ HW6.out (HP.out.2.2.2.2.1.1) (HP.out.2.2.2.2.1.2) (by omega) (by omega)).mono ?_
 rintro e w7 ⟨rfl,hW,hT⟩
 have HW7:=hid (show Blk w7 w1.heap.size #[.int .u32 (PS k c n s d)] 119 from hW)
 have HB7:=hid (fT HB6.out hT (by omega))
 have HT7:=hid (HT6.out.touch hT (by omega))
 clear hW hT HW6 HB6 HT6
 go_wp2_with fail
 rw[rounds_succ]
 go_wp2_with fail
 refine(kv w1.heap.size (PS k c n s d) 6 1 g _ HW7.out (HP.out.2.2.2.2.2.1.1) (HP.out.2.2.2.2.2.1.2) (by omega) (by omega)).mono ?_
 rintro e w8 ⟨rfl,hW,hT⟩
 have HW8:=hid (show Blk w8 w1.heap.size #[.int .u32 (PT k c n s d g)] 119 from hW)
 have HB8:=hid (fT HB7.out hT (by omega))
 have HT8:=hid (HT7.out.touch hT (by omega))
 clear hW hT HW7 HB7 HT7
 go_wp2_with fail
 have t6:=HT8.out.cell 6 rfl
 rw[rounds_succ]
 go_wp2_with fail
 refine(kv w1.heap.size (PT k c n s d g) 8 24 o _ HW8.out HP.out.2.2.2.2.2.2.1 HP.out.2.2.2.2.2.2.2 (by omega) (by omega)).mono ?_
 rintro e w9 ⟨rfl,hW,hT⟩
 have HB9:=hid (fT HB8.out hT (by omega))
 have c9:w9.cell? ⟨w1.heap.size,0,none⟩=some (.int .u32 (bZ k c n s d g o)):=by
  have:=Blk.cell (show Blk w9 w1.heap.size #[.int .u32 (Ry k c n s d g o)] 119 from hW) 0 rfl
  rw[HP.out.1] at this
  exact this
 clear hW hT HW8 HB8 HT8 t6
 go_wp2_with fail
 go_ret2
 exact⟨rfl,HB9.out⟩
theorem yo(c n s d g:Int)(w:World):
  Calls Tryz.prog 206 #[.agg #[.int .i64 c,.int .i64 n,.int .i64 s,.int .i64 d,.int .i64 g]] w fun e w'=>e=.returned (.agg #[.int .i64 0,.int .i64 c,.int .i64 n,.int .i64 s,.int .i64 d,.int .i64 g,.int .i64 0])∧Below w.heap.size w w':=by
 go_enter Tryz.func206,Tryz.ntmps206
 go_wp2_with fail
 exact bodyPost_ret (v:=.agg #[.int .i64 0,.int .i64 c,.int .i64 n,.int .i64 s,.int .i64 d,.int .i64 g,.int .i64 0]) (by simp[results,Tryz.results206,go_sem]) rfl ⟨rfl,by
  repeat refine Below.setCell ?_ (by simp) _
  exact(below_new w _).alloc (by simp) _⟩
set_option maxHeartbeats 1000000 in
theorem dh(x:Int)(w:World)(h0:0≤x)(h1:x≤4294967295):
  Calls Tryz.prog 172 #[.int .u32 x] w fun e w'=>e=.returned (.agg #[.int .i64 (uK x),.int .i64 (uC x),.int .i64 (uN x),.int .i64 (uS x),.int .i64 (uD x),.int .i64 (uG x),.int .i64 (uO x)])∧Below w.heap.size w w':=by
 have hmf:∀(fn:Fn) (first cap:Array Value) (w:World),(Instr.makeFunc fn first cap).run Tryz.prog w=.ok (.func fn first cap) w:=fun _ _ _ _=>rfl
 go_enter Tryz.func172,Tryz.ntmps172
 go_wp2_with fail
 refine wp_loop_rounds 6 ?_
 rw[rounds_succ]
 go_wp2_with fail
 have HA:=hid (((below_new w (.cells #[.int .u32 x] 119)).alloc (by simp) (.cells #[.int .i64 0,.int .i64 0,.int .i64 0,.int .i64 0,.int .i64 0,.int .i64 0,.int .i64 0] 144)).alloc (by simp<;>omega) (.cells #[.int .i64 0,.int .i64 0,.int .i64 0,.int .i64 0,.int .i64 0] 193))
 have HX:=hid (((Blk.new w #[.int .u32 x] 119).alloc (.cells #[.int .i64 0,.int .i64 0,.int .i64 0,.int .i64 0,.int .i64 0,.int .i64 0,.int .i64 0] 144)).alloc (.cells #[.int .i64 0,.int .i64 0,.int .i64 0,.int .i64 0,.int .i64 0] 193))
 have HR:=hid ((Blk.new (w.alloc (.cells #[.int .u32 x] 119)) #[.int .i64 0,.int .i64 0,.int .i64 0,.int .i64 0,.int .i64 0,.int .i64 0,.int .i64 0] 144).alloc (.cells #[.int .i64 0,.int .i64 0,.int .i64 0,.int .i64 0,.int .i64 0] 193))
 have HM:=hid (Blk.new ((w.alloc (.cells #[.int .u32 x] 119)).alloc (.cells #[.int .i64 0,.int .i64 0,.int .i64 0,.int .i64 0,.int .i64 0,.int .i64 0,.int .i64 0] 144)) #[.int .i64 0,.int .i64 0,.int .i64 0,.int .i64 0,.int .i64 0] 193)
 simp only[World.size_alloc] at HR HM
 refine(ik w.heap.size x 2 1 _ HX.out h0 h1).mono ?_
 rintro e v0 ⟨rfl,hd⟩
 rw[Ph]
 have HA0:=hid (HA.out.trans (hd.below _))
 have HX0:=hid (HX.out.later hd.new)
 have HR0:=hid (HR.out.later hd.new)
 have HM0:=hid (HM.out.later hd.new)
 clear hd HA HX HR HM
 have cm:=HM0.out.cell 0 rfl
 have fm:=HM0.out.free 0
 go_wp2_with fail
 have HA:=hid (jH HA0.out (p:=⟨w.heap.size+1+1,0,none⟩) (by simp<;>omega) (.int .i64 (uC x)))
 have HX:=hid (HX0.out.other (p:=⟨w.heap.size+1+1,0,none⟩) (by simp<;>omega) (.int .i64 (uC x)))
 have HR:=hid (HR0.out.other (p:=⟨w.heap.size+1+1,0,none⟩) (by simp<;>omega) (.int .i64 (uC x)))
 have HM:=hid (HM0.out.put (cs':= #[.int .i64 (uC x),.int .i64 0,.int .i64 0,.int .i64 0,.int .i64 0]) 0 (.int .i64 (uC x)) rfl)
 clear HA0 HX0 HR0 HM0 cm fm
 rw[rounds_succ]
 go_wp2_with fail
 refine(ik w.heap.size x 3 1 _ HX.out h0 h1).mono ?_
 rintro e v1 ⟨rfl,hd⟩
 rw[Pn]
 have HA1:=hid (HA.out.trans (hd.below _))
 have HX1:=hid (HX.out.later hd.new)
 have HR1:=hid (HR.out.later hd.new)
 have HM1:=hid (HM.out.later hd.new)
 clear hd HA HX HR HM
 have cm:=HM1.out.cell 1 rfl
 have fm:=HM1.out.free 1
 go_wp2_with fail
 have HA:=hid (jH HA1.out (p:=⟨w.heap.size+1+1,1,none⟩) (by simp<;>omega) (.int .i64 (uN x)))
 have HX:=hid (HX1.out.other (p:=⟨w.heap.size+1+1,1,none⟩) (by simp<;>omega) (.int .i64 (uN x)))
 have HR:=hid (HR1.out.other (p:=⟨w.heap.size+1+1,1,none⟩) (by simp<;>omega) (.int .i64 (uN x)))
 have HM:=hid (HM1.out.put (cs':= #[.int .i64 (uC x),.int .i64 (uN x),.int .i64 0,.int .i64 0,.int .i64 0]) 1 (.int .i64 (uN x)) rfl)
 clear HA1 HX1 HR1 HM1 cm fm
 rw[rounds_succ]
 go_wp2_with fail
 refine(ik w.heap.size x 4 1 _ HX.out h0 h1).mono ?_
 rintro e v2 ⟨rfl,hd⟩
 rw[Pp]
 have HA2:=hid (HA.out.trans (hd.below _))
 have HX2:=hid (HX.out.later hd.new)
 have HR2:=hid (HR.out.later hd.new)
 have HM2:=hid (HM.out.later hd.new)
 clear hd HA HX HR HM
 have cm:=HM2.out.cell 2 rfl
 have fm:=HM2.out.free 2
 go_wp2_with fail
 have HA:=hid (jH HA2.out (p:=⟨w.heap.size+1+1,2,none⟩) (by simp<;>omega) (.int .i64 (uS x)))
 have HX:=hid (HX2.out.other (p:=⟨w.heap.size+1+1,2,none⟩) (by simp<;>omega) (.int .i64 (uS x)))
 have HR:=hid (HR2.out.other (p:=⟨w.heap.size+1+1,2,none⟩) (by simp<;>omega) (.int .i64 (uS x)))
 have HM:=hid (HM2.out.put (cs':= #[.int .i64 (uC x),.int .i64 (uN x),.int .i64 (uS x),.int .i64 0,.int .i64 0]) 2 (.int .i64 (uS x)) rfl)
 clear HA2 HX2 HR2 HM2 cm fm
 rw[rounds_succ]
 go_wp2_with fail
 refine(ik w.heap.size x 5 1 _ HX.out h0 h1).mono ?_
 rintro e v3 ⟨rfl,hd⟩
 rw[Pi]
 have HA3:=hid (HA.out.trans (hd.below _))
 have HX3:=hid (HX.out.later hd.new)
 have HR3:=hid (HR.out.later hd.new)
 have HM3:=hid (HM.out.later hd.new)
 clear hd HA HX HR HM
 have cm:=HM3.out.cell 3 rfl
 have fm:=HM3.out.free 3
 go_wp2_with fail
 have HA:=hid (jH HA3.out (p:=⟨w.heap.size+1+1,3,none⟩) (by simp<;>omega) (.int .i64 (uD x)))
 have HX:=hid (HX3.out.other (p:=⟨w.heap.size+1+1,3,none⟩) (by simp<;>omega) (.int .i64 (uD x)))
 have HR:=hid (HR3.out.other (p:=⟨w.heap.size+1+1,3,none⟩) (by simp<;>omega) (.int .i64 (uD x)))
 have HM:=hid (HM3.out.put (cs':= #[.int .i64 (uC x),.int .i64 (uN x),.int .i64 (uS x),.int .i64 (uD x),.int .i64 0]) 3 (.int .i64 (uD x)) rfl)
 clear HA3 HX3 HR3 HM3 cm fm
 rw[rounds_succ]
 go_wp2_with fail
 refine(ik w.heap.size x 6 1 _ HX.out h0 h1).mono ?_
 rintro e v4 ⟨rfl,hd⟩
 rw[Pj]
 have HA4:=hid (HA.out.trans (hd.below _))
 have HX4:=hid (HX.out.later hd.new)
 have HR4:=hid (HR.out.later hd.new)
 have HM4:=hid (HM.out.later hd.new)
 clear hd HA HX HR HM
 have cm:=HM4.out.cell 4 rfl
 have fm:=HM4.out.free 4
 go_wp2_with fail
 have HA:=hid (jH HA4.out (p:=⟨w.heap.size+1+1,4,none⟩) (by simp<;>omega) (.int .i64 (uG x)))
 have HX:=hid (HX4.out.other (p:=⟨w.heap.size+1+1,4,none⟩) (by simp<;>omega) (.int .i64 (uG x)))
 have HR:=hid (HR4.out.other (p:=⟨w.heap.size+1+1,4,none⟩) (by simp<;>omega) (.int .i64 (uG x)))
 have HM:=hid (HM4.out.put (cs':= #[.int .i64 (uC x),.int .i64 (uN x),.int .i64 (uS x),.int .i64 (uD x),.int .i64 (uG x)]) 4 (.int .i64 (uG x)) rfl)
 clear HA4 HX4 HR4 HM4 cm fm
 generalize hv:v4.setCell _ _=v5 at*
 clear hv
 have m0:=HM.out.cell 0 rfl
 have m1:=HM.out.cell 1 rfl
 have m2:=HM.out.cell 2 rfl
 have m3:=HM.out.cell 3 rfl
 have m4:=HM.out.cell 4 rfl
 rw[rounds_succ]
 go_wp2_with fail
 refine(yo _ _ _ _ _ _).mono ?_
 rintro e v6 ⟨rfl,hb⟩
 have HA6:=hid (below_step HA.out hb)
 have HX6:=hid (HX.out.later hb)
 have HR6:=hid (HR.out.later hb)
 have hz6:=HX6.out.lt
 have hy6:=HR6.out.lt
 clear hb HA HX HR HM m0 m1 m2 m3 m4
 go_wp2_with fail
 refine(ik w.heap.size x 0 2 _ (HX6.out.alloc _) h0 h1).mono ?_
 rintro e v7 ⟨rfl,hd⟩
 rw[Pm]
 have HT7:=hid ((Blk.new v6 #[.int .i64 0,.int .i64 (uC x),.int .i64 (uN x),.int .i64 (uS x),.int .i64 (uD x),.int .i64 (uG x),.int .i64 0] 144).later hd.new)
 have HA7:=hid ((below_step HA6.out (below_new v6 _)).trans (hd.below _))
 have HX7:=hid ((HX6.out.alloc _).later hd.new)
 have HR7:=hid ((HR6.out.alloc _).later hd.new)
 clear hd HA6 HX6 HR6
 have cm:=HT7.out.cell 0 rfl
 have fm:=HT7.out.free 0
 go_wp2_with fail
 have HA:=hid (jH HA7.out (p:=⟨v6.heap.size,0,none⟩) (by simp<;>omega) (.int .i64 (uK x)))
 have HX:=hid (HX7.out.other (p:=⟨v6.heap.size,0,none⟩) (by simp<;>omega) (.int .i64 (uK x)))
 have HR:=hid (HR7.out.other (p:=⟨v6.heap.size,0,none⟩) (by simp<;>omega) (.int .i64 (uK x)))
 have HT:=hid (HT7.out.put (cs':= #[.int .i64 (uK x),.int .i64 (uC x),.int .i64 (uN x),.int .i64 (uS x),.int .i64 (uD x),.int .i64 (uG x),.int .i64 0]) 0 (.int .i64 (uK x)) rfl)
 clear HA7 HX7 HR7 HT7 cm fm
 refine(ik w.heap.size x 8 24 _ HX.out h0 h1).mono ?_
 rintro e v8 ⟨rfl,hd⟩
 rw[Po h0 h1]
 have HT8:=hid (HT.out.later hd.new)
 have HA8:=hid (HA.out.trans (hd.below _))
 have HR8:=hid (HR.out.later hd.new)
 clear hd HA HX HR HT
 have cm:=HT8.out.cell 6 rfl
 have fm:=HT8.out.free 6
 have e0:=HT8.out.cell 0 rfl
 have e1:=HT8.out.cell 1 rfl
 have e2:=HT8.out.cell 2 rfl
 have e3:=HT8.out.cell 3 rfl
 have e4:=HT8.out.cell 4 rfl
 have e5:=HT8.out.cell 5 rfl
 have r0:=HR8.out.cell 0 rfl
 have r1:=HR8.out.cell 1 rfl
 have r2:=HR8.out.cell 2 rfl
 have r3:=HR8.out.cell 3 rfl
 have r4:=HR8.out.cell 4 rfl
 have r5:=HR8.out.cell 5 rfl
 have r6:=HR8.out.cell 6 rfl
 have q0:=HR8.out.free 0
 have q1:=HR8.out.free 1
 have q2:=HR8.out.free 2
 have q3:=HR8.out.free 3
 have q4:=HR8.out.free 4
 have q5:=HR8.out.free 5
 have q6:=HR8.out.free 6
 have hne:¬v6.heap.size=w.heap.size+1:=by omega
 have hne':¬w.heap.size+1=v6.heap.size:=by omega
 have hz8:=HR8.out.lt
 have hy8:=HT8.out.lt
 go_wp2_with fail
 exact bodyPost_ret (v:=.agg #[.int .i64 (uK x),.int .i64 (uC x),.int .i64 (uN x),.int .i64 (uS x),.int .i64 (uD x),.int .i64 (uG x),.int .i64 (uO x)]) (by simp[results,Tryz.results172,go_sem,hne,r0,r1,r2,r3,r4,r5,r6]) rfl ⟨rfl,by
  repeat refine Below.setCell ?_ (by simp<;>omega) _
  exact HA8.out⟩
end Go.Proofs.YtjmifnljckmimaaGreat.Pk
