/-
  The document's rows of layer 8: what Has, Front, Rest, Behind, Ends, Next and Ints return.
-/
import Derived.Test.YtjmifnljckmimaaGreatProg
import Derived.Test.YtjmifnljckmimaaGreatBaseEtc
import Derived.IntWalk
import Derived.OwnWalk
import Derived.Laws.OwnMore
namespace Go.Proofs.YtjmifnljckmimaaGreat.Pk
open Lib (hid)
open Go.RowKit
set_option linter.unusedVariables false
set_option linter.unusedSimpArgs false
theorem bL{a b:Int}(h:a≠b):(a==b)=false:=by rw[beq_eq_false_iff_ne];exact h
theorem wB{a b:Int}(h:a=b):(a==b)=true:=by subst h;exact beq_self_eq_true a
def hasB(zs:List Int)(b:Int):Bool:=zs.any (· ==b)
theorem Ol{zs:List Int}{b:Int}{k:Nat}(hk:k<zs.length)(h:nth zs k=b):hasB zs b=true:=by
 unfold hasB
 rw[List.any_eq_true]
 refine⟨nth zs k,?_,by rw[h];exact beq_self_eq_true b⟩
 unfold nth
 rw[List.getD_eq_getElem?_getD,List.getElem?_eq_getElem hk]
 exact List.getElem_mem hk
theorem Ra{zs:List Int}{b:Int}(h:∀k,k<zs.length→nth zs k≠b):hasB zs b=false:=by
 unfold hasB
 rw[List.any_eq_false]
 intro x hx
 obtain⟨k,hk,rfl⟩:=List.getElem_of_mem hx
 have:=h k hk
 unfold nth at this
 rw[List.getD_eq_getElem?_getD,List.getElem?_eq_getElem hk] at this
 simpa using this
set_option maxHeartbeats 400000 in
theorem Mo(a:Option Addr)(cap:Nat)(zs:List Int)(b:Int)(w:World)(hr:Row w .i64 a zs)(hl:zs.length≤maxLen):
  Calls Tryz.prog 169 #[.slice a zs.length cap,.int .i64 b] w fun e w'=>e=.returned (.bool (hasB zs b))∧w=w':=by
 unfold maxLen at hl
 go_enter Tryz.func169,Tryz.ntmps169
 go_wp2
 go_loop [5] (fun i=>∃k:Nat,k≤zs.length∧i=.int .i64 k∧∀j,j<k→nth zs j≠b) (fun i=>zs.length-(intOf i).toNat)
 case atStart=>exact⟨0,Nat.zero_le _,rfl,fun j h=>absurd h (Nat.not_lt_zero _)⟩
 case round=>
  obtain⟨k,hk,rfl,hno⟩:=hrel
  have HN:=hid hno
  clear hno
  by_cases hlt:k<zs.length
  ·obtain⟨g,off,rfl,hg,hc⟩:=hr k hlt
   by_cases he:nth zs k=b
   ·have E:=hid (Ol hlt he)
    have hb:=wB he
    clear he
    go_wp2
    go_ret
    exact⟨aJ E.out.symm,rfl⟩
   ·have hb:=bL he
    have HE:=hid he
    clear he
    go_wp2
    go_round
    case rel=>exact⟨k+1,by omega,by go_num,fun j hj=>by
     by_cases e:j=k
     ·subst e;exact HE.out
     ·exact HN.out j (by omega)⟩
    case measure=>simp[intOf];omega
  ·have E:=hid (Ra (zs:=zs) (b:=b) (fun j hj=>HN.out j (by omega)))
   go_wp2
   go_ret
   exact⟨aJ E.out.symm,rfl⟩
def ib(w:World)(v:Value)(k:Nat)(zs:List Int)(wr:World):Prop:=wr.ownsRow w.heap.size 3 1 v k (zs.map (Value.int .i64))∧Below w.heap.size w wr
def dQ(w:World)(zs:List Int)(e:Ending)(w':World):Prop:=
 ∃a cap,e=.returned (.slice a zs.length cap)∧Row w' .i64 a zs∧(∀b off,a=some ⟨b,off,none⟩→w.heap.size≤b)∧Below w.heap.size w w'
theorem dQ.mk{w w':World}{v:Value}{zs:List Int}{n:Nat}(hn:n=zs.length)(h:ib w v n zs w'):dQ w zs (.returned v) w':=by
 subst hn
 obtain⟨a,cap,hv,hr⟩:=Row.ow h.1
 refine⟨a,cap,by rw[hv],hr,?_,h.2⟩
 intro b off hab
 have:=aN h.1 b (by rw[hv,hab];rfl)
 exact this
theorem jy:(Tryz.prog.info? 3).map (fun i=>(i.zero,i.size,i.bytes))=some (some (.int .i64 0),1,8):=by kernel_rfl
theorem yB{zs:List Int}{m k:Nat}(hm:m≤k)(hk:k<zs.length):(zs.take (k+1)).drop m=(zs.take k).drop m++[nth zs k]:=by
 rw[List.take_succ_eq_append_getElem hk,List.drop_append_of_le_length (by simp;omega)]
 unfold nth;simp[List.getD,hk]
set_option maxHeartbeats 1000000 in
theorem Jk(a:Option Addr)(cap:Nat)(zs:List Int)(w:World)(hr:Row w .i64 a zs)(hl:zs.length≤10000)(h1:1≤zs.length):
  Calls Tryz.prog 106 #[.slice a zs.length cap] w (dQ w zs.tail):=by
 obtain⟨i0,hi,hz0,hz1,hz2⟩:=info_parts jy
 go_enter Tryz.func106,Tryz.ntmps106
 go_wp2
 go_loopw [3,4] (fun v i wr=>∃k:Nat,1≤k∧k≤zs.length∧i=.int .i64 k∧ib w v (k-1) ((zs.take k).drop 1) wr) (fun _ i _=>zs.length-(intOf i).toNat)
 case atStart=>
  refine⟨1,Nat.le_refl _,h1,rfl,?_,Below.refl _ _⟩
  have:(zs.take 1).drop 1=[]:=by simp
  rw[this]
  exact World.ownsRow_nil _ _ _ _
 case round=>
  obtain⟨k,hk1,hk,rfl,hown,hbel⟩:=hrel
  by_cases hlt:k<zs.length
  ·obtain⟨b,off,rfl,hb,hcw⟩:=hr k hlt
   have hc:=(hbel.cell (p:=⟨b,off+k,none⟩) hb).trans hcw
   have HT:=hid (yB hk1 hlt)
   have hsz:=hbel.size
   have HW:=hid hcw
   clear hcw
   go_wp2_with (at_builtin;refine wpList_append_own _ rfl _ _ 45 rfl w.heap.size 3 i0 (.int .i64 0) 1 8 Tryz.underlying45 hi hz0 hz1 hz2 rfl (by decide) _ _ _ rfl (hown.alloc _) ⟨wr.heap.size,0,none⟩ 1 1 [.int .i64 (nth zs k)] rfl rfl ?c1 ?c2 ?c3 ?c4 ?c5 ?c6)
   case c1=>exact cell_one_new wr _ _
   case c2=>intro u hu;simp at hu;subst hu;rfl
   case c3=>unfold maxLen;omega
   case c4=>omega
   case c5=>simp;omega
   case c6=>
    intro v' w1 hown' hgrow _
    have hbel1:Below w.heap.size w w1:=(hbel.alloc hsz _).grown hgrow (by simp;omega) (aN hown)
    have HG:Hid (ib w v' (k+1-1) ((zs.take (k+1)).drop 1) w1):=by
     refine⟨?_,hbel1⟩
     rw[HT.out]
     simpa using hown'
    clear hown' hgrow hbel1 hown hbel hc
    go_wp2
    go_roundw
    case rel=>exact⟨k+1,by omega,by omega,by go_num,HG.out⟩
    case measure=>simp[intOf];omega
  ·have e:k=zs.length:=by omega
   have HO:Hid (dQ w zs.tail (.returned u3) wr):=by
    refine dQ.mk (n:=k-1) (by simp;omega) ?_
    have:=(⟨hown,hbel⟩:ib w u3 (k-1) ((zs.take k).drop 1) wr)
    rwa[e,List.take_length,List.drop_one,←e] at this
   clear e hown hbel
   go_wp2
   go_ret
   exact HO.out
theorem jh{zs:List Int}{k:Nat}(hk:k<zs.length):zs.take (k+1)=zs.take k++[nth zs k]:=by
 rw[List.take_succ_eq_append_getElem hk];unfold nth;simp[List.getD,hk]
set_option maxHeartbeats 1000000 in
theorem FO(a:Option Addr)(cap:Nat)(zs:List Int)(x:Int)(w:World)(hr:Row w .i64 a zs)(hl:zs.length≤10000):
  Calls Tryz.prog 171 #[.slice a zs.length cap,.int .i64 x] w (dQ w (x::zs)):=by
 obtain⟨i0,hi,hz0,hz1,hz2⟩:=info_parts jy
 have h0:ib w (.slice (some ⟨w.heap.size,0,none⟩) 1 1) 1 [x] (w.alloc (.cells #[.int .i64 x] 3)):=
  ⟨World.ownsRow_lit (base:=w.heap.size) (e:=3) (size:=1) w #[.int .i64 x] 1 (Nat.le_refl _) (by unfold maxLen;omega) rfl,below_new _ _⟩
 have H0:=hid h0
 clear h0
 go_enter Tryz.func171,Tryz.ntmps171
 go_wp2
 go_loopw [5,6] (fun v i wr=>∃k:Nat,k≤zs.length∧i=.int .i64 k∧ib w v (k+1) (x::zs.take k) wr) (fun _ i _=>zs.length-(intOf i).toNat)
 case atStart=>exact⟨0,Nat.zero_le _,rfl,H0.out⟩
 case round=>
  obtain⟨k,hk,rfl,hown,hbel⟩:=hrel
  by_cases hlt:k<zs.length
  ·obtain⟨b,off,rfl,hb,hcw⟩:=hr k hlt
   have hc:=(hbel.cell (p:=⟨b,off+k,none⟩) hb).trans hcw
   have HT:=hid (jh hlt)
   have hsz:=hbel.size
   clear hcw
   go_wp2_with (at_builtin;refine wpList_append_own _ rfl _ _ 45 rfl w.heap.size 3 i0 (.int .i64 0) 1 8 Tryz.underlying45 hi hz0 hz1 hz2 rfl (by decide) _ _ _ rfl (hown.alloc _) ⟨wr.heap.size,0,none⟩ 1 1 [.int .i64 (nth zs k)] rfl rfl ?c1 ?c2 ?c3 ?c4 ?c5 ?c6)
   case c1=>exact cell_one_new wr _ _
   case c2=>intro u hu;simp at hu;subst hu;rfl
   case c3=>unfold maxLen;omega
   case c4=>omega
   case c5=>simp;omega
   case c6=>
    intro v' w1 hown' hgrow _
    have hbel1:Below w.heap.size w w1:=(hbel.alloc hsz _).grown hgrow (by simp;omega) (aN hown)
    have HG:Hid (ib w v' (k+1+1) (x::zs.take (k+1)) w1):=by
     refine⟨?_,hbel1⟩
     rw[HT.out]
     simpa using hown'
    clear hown' hgrow hbel1 hown hbel hc
    go_wp2
    go_roundw
    case rel=>exact⟨k+1,by omega,by go_num,HG.out⟩
    case measure=>simp[intOf];omega
  ·have e:k=zs.length:=by omega
   have HO:Hid (dQ w (x::zs) (.returned u5) wr):=by
    refine dQ.mk (n:=k+1) (by simp;omega) ?_
    have:=(⟨hown,hbel⟩:ib w u5 (k+1) (x::zs.take k) wr)
    rwa[e,List.take_length,←e] at this
   clear e hown hbel
   go_wp2
   go_ret
   exact HO.out
set_option maxHeartbeats 1000000 in
theorem CF(a:Option Addr)(cap:Nat)(zs:List Int)(x:Int)(w:World)(hr:Row w .i64 a zs)(hl:zs.length≤10000):
  Calls Tryz.prog 116 #[.slice a zs.length cap,.int .i64 x] w (dQ w (zs++[x])):=by
 obtain⟨i0,hi,hz0,hz1,hz2⟩:=info_parts jy
 go_enter Tryz.func116,Tryz.ntmps116
 go_wp2
 go_loopw [5,6] (fun v i wr=>∃k:Nat,k≤zs.length∧i=.int .i64 k∧ib w v k (zs.take k) wr) (fun _ i _=>zs.length-(intOf i).toNat)
 case atStart=>exact⟨0,Nat.zero_le _,rfl,World.ownsRow_nil _ _ _ _,Below.refl _ _⟩
 case round=>
  obtain⟨k,hk,rfl,hown,hbel⟩:=hrel
  have hsz:=hbel.size
  by_cases hlt:k<zs.length
  ·obtain⟨b,off,rfl,hb,hcw⟩:=hr k hlt
   have hc:=(hbel.cell (p:=⟨b,off+k,none⟩) hb).trans hcw
   have HT:=hid (jh hlt)
   clear hcw
   go_wp2_with (at_builtin;refine wpList_append_own _ rfl _ _ 45 rfl w.heap.size 3 i0 (.int .i64 0) 1 8 Tryz.underlying45 hi hz0 hz1 hz2 rfl (by decide) _ _ _ rfl (hown.alloc _) ⟨wr.heap.size,0,none⟩ 1 1 [.int .i64 (nth zs k)] rfl rfl ?c1 ?c2 ?c3 ?c4 ?c5 ?c6)
   case c1=>exact cell_one_new wr _ _
   case c2=>intro u hu;simp at hu;subst hu;rfl
   case c3=>unfold maxLen;omega
   case c4=>omega
   case c5=>simp;omega
   case c6=>
    intro v' w1 hown' hgrow _
    have hbel1:Below w.heap.size w w1:=(hbel.alloc hsz _).grown hgrow (by simp;omega) (aN hown)
    have HG:Hid (ib w v' (k+1) (zs.take (k+1)) w1):=by
     refine⟨?_,hbel1⟩
     rw[HT.out]
     simpa using hown'
    clear hown' hgrow hbel1 hown hbel hc
    go_wp2
    go_roundw
    case rel=>exact⟨k+1,by omega,by go_num,HG.out⟩
    case measure=>simp[intOf];omega
  ·have e:k=zs.length:=by omega
   go_wp2_with (at_builtin;refine wpList_append_own _ rfl _ _ 45 rfl w.heap.size 3 i0 (.int .i64 0) 1 8 Tryz.underlying45 hi hz0 hz1 hz2 rfl (by decide) _ _ _ rfl (hown.alloc _) ⟨wr.heap.size,0,none⟩ 1 1 [.int .i64 x] rfl rfl ?d1 ?d2 ?d3 ?d4 ?d5 ?d6)
   case d1=>exact cell_one_new wr _ _
   case d2=>intro u hu;simp at hu;subst hu;rfl
   case d3=>unfold maxLen;omega
   case d4=>omega
   case d5=>simp;omega
   case d6=>
    intro v' w1 hown' hgrow _
    have hbel1:Below w.heap.size w w1:=(hbel.alloc hsz _).grown hgrow (by simp;omega) (aN hown)
    have HO:Hid (dQ w (zs++[x]) (.returned v') w1):=by
     refine dQ.mk (n:=k+1) (by simp;omega) ⟨?_,hbel1⟩
     rw[e]
     simpa using hown'
    clear hown' hgrow hbel1 hown hbel e
    go_wp2
    go_ret
    exact HO.out
set_option maxHeartbeats 400000 in
theorem FP(a b:Option Addr)(ca cb:Nat)(zs:List Int)(w:World)(h1:Row w .i64 a zs)(h2:Row w .i64 b zs)(hl:zs.length≤10000):
  Calls Tryz.prog 24 #[.slice a zs.length ca,.slice b zs.length cb] w fun e w'=>e=.returned (.bool true)∧dK w w':=by
 go_enter Tryz.func24,Tryz.ntmps24
 go_wp2
 go_loopw [5] (fun i wr=>∃k:Nat,k≤zs.length∧i=.int .i64 k∧dK w wr) (fun i _=>zs.length-(intOf i).toNat)
 case atStart=>exact⟨0,Nat.zero_le _,rfl,dK.refl _⟩
 case round=>
  obtain⟨k,hk,rfl,hd⟩:=hrel
  by_cases hlt:k<zs.length
  ·obtain⟨b1,o1,rfl,hb1,hc1⟩:=(h1.dF hd) k hlt
   obtain⟨b2,o2,rfl,hb2,hc2⟩:=(h2.dF hd) k hlt
   go_wp2
   go_quiet (fail)
   go_wp2
   go_roundw
   case rel=>exact⟨k+1,by omega,by go_num,hd.step _⟩
   case measure=>simp[intOf];omega
  ·go_wp2
   go_ret
   exact⟨rfl,hd⟩
end Go.Proofs.YtjmifnljckmimaaGreat.Pk
