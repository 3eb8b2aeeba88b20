/-
  The document's rows of layer 8: what Has, Front, Rest, Behind, Ends, Next and Ints return.
-/
import Derived.Test.YtjmifnljckmimaaGreatProg
import Derived.Test.YtjmifnljckmimaaGreatBaseEtc
import Derived.IntWalk
import Derived.OwnWalk
import Derived.Laws.OwnMore
namespace Go.Proofs.YtjmifnljckmimaaGreat.Pk
open Lib (hid)
open Go.RowKit
set_option linter.unusedVariables false
set_option linter.unusedSimpArgs false
theorem neq_b{a b:Int}(h:a≠b):(a==b)=false:=by rw[beq_eq_false_iff_ne];exact h
theorem eq_b{a b:Int}(h:a=b):(a==b)=true:=by subst h;exact beq_self_eq_true a
def hasB(zs:List Int)(b:Int):Bool:=zs.any (· ==b)
theorem KL{zs:List Int}{b:Int}{k:Nat}(hk:k<zs.length)(h:nth zs k=b):hasB zs b=true:=by
 unfold hasB
 rw[List.any_eq_true]
 refine⟨nth zs k,?_,by rw[h];exact beq_self_eq_true b⟩
 unfold nth
 rw[List.getD_eq_getElem?_getD,List.getElem?_eq_getElem hk]
 exact List.getElem_mem hk
theorem Ng{zs:List Int}{b:Int}(h:∀k,k<zs.length→nth zs k≠b):hasB zs b=false:=by
 unfold hasB
 rw[List.any_eq_false]
 intro x hx
 obtain⟨k,hk,rfl⟩:=List.getElem_of_mem hx
 have:=h k hk
 unfold nth at this
 rw[List.getD_eq_getElem?_getD,List.getElem?_eq_getElem hk] at this
 simpa using this
set_option maxHeartbeats 400000 in
theorem Jb(a:Option Addr)(cap:Nat)(zs:List Int)(b:Int)(w:World)(hr:Row w .i64 a zs)(hl:zs.length≤maxLen):
  Calls Tryz.prog 169 #[.slice a zs.length cap,.int .i64 b] w fun e w'=>e=.returned (.bool (hasB zs b))∧w=w':=by
 unfold maxLen at hl
 go_enter Tryz.func169,Tryz.ntmps169
 go_wp2
 go_loop [5] (fun i=>∃k:Nat,k≤zs.length∧i=.int .i64 k∧∀j,j<k→nth zs j≠b) (fun i=>zs.length-(intOf i).toNat)
 case atStart=>exact⟨0,Nat.zero_le _,rfl,fun j h=>absurd h (Nat.not_lt_zero _)⟩
 case round=>
  obtain⟨k,hk,rfl,hno⟩:=hrel
  have HN:=hid hno
  clear hno
  by_cases hlt:k<zs.length
  ·obtain⟨g,off,rfl,hg,hc⟩:=hr k hlt
   by_cases he:nth zs k=b
   ·have E:=hid (KL hlt he)
    have hb:=eq_b he
    clear he
    go_wp2
    go_ret
    exact⟨aH E.out.symm,rfl⟩
   ·have hb:=neq_b he
    have HE:=hid he
    clear he
    go_wp2
    go_round
    case rel=>exact⟨k+1,by omega,by go_num,fun j hj=>by
     by_cases e:j=k
     ·subst e;exact HE.out
     ·exact HN.out j (by omega)⟩
    case measure=>simp[intOf];omega
  ·have E:=hid (Ng (zs:=zs) (b:=b) (fun j hj=>HN.out j (by omega)))
   go_wp2
   go_ret
   exact⟨aH E.out.symm,rfl⟩
def xk(w:World)(v:Value)(k:Nat)(zs:List Int)(wr:World):Prop:=wr.ownsRow w.heap.size 3 1 v k (zs.map (Value.int .i64))∧Below w.heap.size w wr
def nD(w:World)(zs:List Int)(e:Ending)(w':World):Prop:=
 ∃a cap,e=.returned (.slice a zs.length cap)∧Row w' .i64 a zs∧(∀b off,a=some ⟨b,off,none⟩→w.heap.size≤b)∧Below w.heap.size w w'
theorem nD.mk{w w':World}{v:Value}{zs:List Int}{n:Nat}(hn:n=zs.length)(h:xk w v n zs w'):nD w zs (.returned v) w':=by
 subst hn
 obtain⟨a,cap,hv,hr⟩:=Row.kI h.1
 refine⟨a,cap,by rw[hv],hr,?_,h.2⟩
 intro b off hab
 have:=bf h.1 b (by rw[hv,hab];rfl)
 exact this
theorem oJ:(Tryz.prog.info? 3).map (fun i=>(i.zero,i.size,i.bytes))=some (some (.int .i64 0),1,8):=by kernel_rfl
theorem Jj{zs:List Int}{k:Nat}(hk:k<zs.length):zs.take (k+1)=zs.take k++[nth zs k]:=by
 rw[List.take_succ_eq_append_getElem hk];unfold nth;simp[List.getD,hk]
set_option maxHeartbeats 1000000 in
theorem Ar(a:Option Addr)(cap:Nat)(zs:List Int)(x:Int)(w:World)(hr:Row w .i64 a zs)(hl:zs.length≤10000):
  Calls Tryz.prog 116 #[.slice a zs.length cap,.int .i64 x] w (nD w (zs++[x])):=by
 obtain⟨i0,hi,hz0,hz1,hz2⟩:=info_parts oJ
 go_enter Tryz.func116,Tryz.ntmps116
 go_wp2
 go_loopw [5,6] (fun v i wr=>∃k:Nat,k≤zs.length∧i=.int .i64 k∧xk w v k (zs.take k) wr) (fun _ i _=>zs.length-(intOf i).toNat)
 case atStart=>exact⟨0,Nat.zero_le _,rfl,World.ownsRow_nil _ _ _ _,Below.refl _ _⟩
 case round=>
  obtain⟨k,hk,rfl,hown,hbel⟩:=hrel
  have hsz:=hbel.size
  by_cases hlt:k<zs.length
  ·obtain⟨b,off,rfl,hb,hcw⟩:=hr k hlt
   have hc:=(hbel.cell (p:=⟨b,off+k,none⟩) hb).trans hcw
   have HT:=hid (Jj hlt)
   clear hcw
   go_wp2_with (at_builtin;refine wpList_append_own _ rfl _ _ 45 rfl w.heap.size 3 i0 (.int .i64 0) 1 8 Tryz.underlying45 hi hz0 hz1 hz2 rfl (by decide) _ _ _ rfl (hown.alloc _) ⟨wr.heap.size,0,none⟩ 1 1 [.int .i64 (nth zs k)] rfl rfl ?c1 ?c2 ?c3 ?c4 ?c5 ?c6)
   case c1=>exact cell_one_new wr _ _
   case c2=>intro u hu;simp at hu;subst hu;rfl
   case c3=>unfold maxLen;omega
   case c4=>omega
   case c5=>simp;omega
   case c6=>
    intro v' w1 hown' hgrow _
    have hbel1:Below w.heap.size w w1:=(hbel.alloc hsz _).grown hgrow (by simp;omega) (bf hown)
    have HG:Hid (xk w v' (k+1) (zs.take (k+1)) w1):=by
     refine⟨?_,hbel1⟩
     rw[HT.out]
     simpa using hown'
    clear hown' hgrow hbel1 hown hbel hc
    go_wp2
    go_roundw
    case rel=>exact⟨k+1,by omega,by go_num,HG.out⟩
    case measure=>simp[intOf];omega
  ·have e:k=zs.length:=by omega
   go_wp2_with (at_builtin;refine wpList_append_own _ rfl _ _ 45 rfl w.heap.size 3 i0 (.int .i64 0) 1 8 Tryz.underlying45 hi hz0 hz1 hz2 rfl (by decide) _ _ _ rfl (hown.alloc _) ⟨wr.heap.size,0,none⟩ 1 1 [.int .i64 x] rfl rfl ?d1 ?d2 ?d3 ?d4 ?d5 ?d6)
   case d1=>exact cell_one_new wr _ _
   case d2=>intro u hu;simp at hu;subst hu;rfl
   case d3=>unfold maxLen;omega
   case d4=>omega
   case d5=>simp;omega
   case d6=>
    intro v' w1 hown' hgrow _
    have hbel1:Below w.heap.size w w1:=(hbel.alloc hsz _).grown hgrow (by simp;omega) (bf hown)
    have HO:Hid (nD w (zs++[x]) (.returned v') w1):=by
     refine nD.mk (n:=k+1) (by simp;omega) ⟨?_,hbel1⟩
     rw[e]
     simpa using hown'
    clear hown' hgrow hbel1 hown hbel e
    go_wp2
    go_ret
    exact HO.out
set_option maxHeartbeats 400000 in
theorem Dn(a b:Option Addr)(ca cb:Nat)(zs:List Int)(w:World)(h1:Row w .i64 a zs)(h2:Row w .i64 b zs)(hl:zs.length≤10000):
  Calls Tryz.prog 24 #[.slice a zs.length ca,.slice b zs.length cb] w fun e w'=>e=.returned (.bool true)∧Drw w w':=by
 go_enter Tryz.func24,Tryz.ntmps24
 go_wp2
 go_loopw [5] (fun i wr=>∃k:Nat,k≤zs.length∧i=.int .i64 k∧Drw w wr) (fun i _=>zs.length-(intOf i).toNat)
 case atStart=>exact⟨0,Nat.zero_le _,rfl,Drw.refl _⟩
 case round=>
  obtain⟨k,hk,rfl,hd⟩:=hrel
  by_cases hlt:k<zs.length
  ·obtain⟨b1,o1,rfl,hb1,hc1⟩:=(h1.drw hd) k hlt
   obtain⟨b2,o2,rfl,hb2,hc2⟩:=(h2.drw hd) k hlt
   go_wp2
   go_quiet (fail)
   go_wp2
   go_roundw
   case rel=>exact⟨k+1,by omega,by go_num,hd.step _⟩
   case measure=>simp[intOf];omega
  ·go_wp2
   go_ret
   exact⟨rfl,hd⟩
end Go.Proofs.YtjmifnljckmimaaGreat.Pk
