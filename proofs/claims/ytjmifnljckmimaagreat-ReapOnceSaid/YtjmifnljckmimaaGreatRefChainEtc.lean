/-
  The document's rows of layer 8: what Has, Front, Rest, Behind, Ends, Next and Ints return.
-/
import Derived.Test.YtjmifnljckmimaaGreatProg
import Derived.Test.YtjmifnljckmimaaGreatBaseEtc
import Derived.IntWalk
import Derived.OwnWalk
import Derived.Laws.OwnMore
namespace Go.Proofs.YtjmifnljckmimaaGreat.Pk
open Lib (hid)
open Go.RowKit
set_option linter.unusedVariables false
set_option linter.unusedSimpArgs false
theorem neq_b{a b:Int}(h:a≠b):(a==b)=false:=by rw[beq_eq_false_iff_ne];exact h
theorem eq_b{a b:Int}(h:a=b):(a==b)=true:=by subst h;exact beq_self_eq_true a
def hasB(zs:List Int)(b:Int):Bool:=zs.any (· ==b)
def jN(w:World)(v:Value)(k:Nat)(zs:List Int)(wr:World):Prop:=wr.ownsRow w.heap.size 3 1 v k (zs.map (Value.int .i64))∧Below w.heap.size w wr
def fq(w:World)(zs:List Int)(e:Ending)(w':World):Prop:=
 ∃a cap,e=.returned (.slice a zs.length cap)∧Row w' .i64 a zs∧(∀b off,a=some ⟨b,off,none⟩→w.heap.size≤b)∧Below w.heap.size w w'
theorem fq.mk{w w':World}{v:Value}{zs:List Int}{n:Nat}(hn:n=zs.length)(h:jN w v n zs w'):fq w zs (.returned v) w':=by
 subst hn
 obtain⟨a,cap,hv,hr⟩:=Row.kJ h.1
 refine⟨a,cap,by rw[hv],hr,?_,h.2⟩
 intro b off hab
 have:=aI h.1 b (by rw[hv,hab];rfl)
 exact this
theorem kF:(Tryz.prog.info? 3).map (fun i=>(i.zero,i.size,i.bytes))=some (some (.int .i64 0),1,8):=by kernel_rfl
theorem wE{zs:List Int}{m k:Nat}(hm:m≤k)(hk:k<zs.length):(zs.take (k+1)).drop m=(zs.take k).drop m++[nth zs k]:=by
 rw[List.take_succ_eq_append_getElem hk,List.drop_append_of_le_length (by simp;omega)]
 unfold nth;simp[List.getD,hk]
set_option maxHeartbeats 1000000 in
theorem EZ(a:Option Addr)(cap:Nat)(zs:List Int)(w:World)(hr:Row w .i64 a zs)(hl:zs.length≤10000)(h1:1≤zs.length):
  Calls Tryz.prog 106 #[.slice a zs.length cap] w (fq w zs.tail):=by
 obtain⟨i0,hi,hz0,hz1,hz2⟩:=info_parts kF
 go_enter Tryz.func106,Tryz.ntmps106
 go_wp2
 go_loopw [3,4] (fun v i wr=>∃k:Nat,1≤k∧k≤zs.length∧i=.int .i64 k∧jN w v (k-1) ((zs.take k).drop 1) wr) (fun _ i _=>zs.length-(intOf i).toNat)
 case atStart=>
  refine⟨1,Nat.le_refl _,h1,rfl,?_,Below.refl _ _⟩
  have:(zs.take 1).drop 1=[]:=by simp
  rw[this]
  exact World.ownsRow_nil _ _ _ _
 case round=>
  obtain⟨k,hk1,hk,rfl,hown,hbel⟩:=hrel
  by_cases hlt:k<zs.length
  ·obtain⟨b,off,rfl,hb,hcw⟩:=hr k hlt
   have hc:=(hbel.cell (p:=⟨b,off+k,none⟩) hb).trans hcw
   have HT:=hid (wE hk1 hlt)
   have hsz:=hbel.size
   have HW:=hid hcw
   clear hcw
   go_wp2_with (at_builtin;refine wpList_append_own _ rfl _ _ 45 rfl w.heap.size 3 i0 (.int .i64 0) 1 8 Tryz.underlying45 hi hz0 hz1 hz2 rfl (by decide) _ _ _ rfl (hown.alloc _) ⟨wr.heap.size,0,none⟩ 1 1 [.int .i64 (nth zs k)] rfl rfl ?c1 ?c2 ?c3 ?c4 ?c5 ?c6)
   case c1=>exact cell_one_new wr _ _
   case c2=>intro u hu;simp at hu;subst hu;rfl
   case c3=>unfold maxLen;omega
   case c4=>omega
   case c5=>simp;omega
   case c6=>
    intro v' w1 hown' hgrow _
    have hbel1:Below w.heap.size w w1:=(hbel.alloc hsz _).grown hgrow (by simp;omega) (aI hown)
    have HG:Hid (jN w v' (k+1-1) ((zs.take (k+1)).drop 1) w1):=by
     refine⟨?_,hbel1⟩
     rw[HT.out]
     simpa using hown'
    clear hown' hgrow hbel1 hown hbel hc
    go_wp2
    go_roundw
    case rel=>exact⟨k+1,by omega,by omega,by go_num,HG.out⟩
    case measure=>simp[intOf];omega
  ·have e:k=zs.length:=by omega
   have HO:Hid (fq w zs.tail (.returned u3) wr):=by
    refine fq.mk (n:=k-1) (by simp;omega) ?_
    have:=(⟨hown,hbel⟩:jN w u3 (k-1) ((zs.take k).drop 1) wr)
    rwa[e,List.take_length,List.drop_one,←e] at this
   clear e hown hbel
   go_wp2
   go_ret
   exact HO.out
theorem sG{zs:List Int}{k:Nat}(hk:k<zs.length):zs.take (k+1)=zs.take k++[nth zs k]:=by
 rw[List.take_succ_eq_append_getElem hk];unfold nth;simp[List.getD,hk]
set_option maxHeartbeats 1000000 in
theorem Af(a:Option Addr)(cap:Nat)(zs:List Int)(x:Int)(w:World)(hr:Row w .i64 a zs)(hl:zs.length≤10000):
  Calls Tryz.prog 116 #[.slice a zs.length cap,.int .i64 x] w (fq w (zs++[x])):=by
 obtain⟨i0,hi,hz0,hz1,hz2⟩:=info_parts kF
 go_enter Tryz.func116,Tryz.ntmps116
 go_wp2
 go_loopw [5,6] (fun v i wr=>∃k:Nat,k≤zs.length∧i=.int .i64 k∧jN w v k (zs.take k) wr) (fun _ i _=>zs.length-(intOf i).toNat)
 case atStart=>exact⟨0,Nat.zero_le _,rfl,World.ownsRow_nil _ _ _ _,Below.refl _ _⟩
 case round=>
  obtain⟨k,hk,rfl,hown,hbel⟩:=hrel
  have hsz:=hbel.size
  by_cases hlt:k<zs.length
  ·obtain⟨b,off,rfl,hb,hcw⟩:=hr k hlt
   have hc:=(hbel.cell (p:=⟨b,off+k,none⟩) hb).trans hcw
   have HT:=hid (sG hlt)
   clear hcw
   go_wp2_with (at_builtin;refine wpList_append_own _ rfl _ _ 45 rfl w.heap.size 3 i0 (.int .i64 0) 1 8 Tryz.underlying45 hi hz0 hz1 hz2 rfl (by decide) _ _ _ rfl (hown.alloc _) ⟨wr.heap.size,0,none⟩ 1 1 [.int .i64 (nth zs k)] rfl rfl ?c1 ?c2 ?c3 ?c4 ?c5 ?c6)
   case c1=>exact cell_one_new wr _ _
   case c2=>intro u hu;simp at hu;subst hu;rfl
   case c3=>unfold maxLen;omega
   case c4=>omega
   case c5=>simp;omega
   case c6=>
    intro v' w1 hown' hgrow _
    have hbel1:Below w.heap.size w w1:=(hbel.alloc hsz _).grown hgrow (by simp;omega) (aI hown)
    have HG:Hid (jN w v' (k+1) (zs.take (k+1)) w1):=by
     refine⟨?_,hbel1⟩
     rw[HT.out]
     simpa using hown'
    clear hown' hgrow hbel1 hown hbel hc
    go_wp2
    go_roundw
    case rel=>exact⟨k+1,by omega,by go_num,HG.out⟩
    case measure=>simp[intOf];omega
  ·have e:k=zs.length:=by omega
   go_wp2_with (at_builtin;refine wpList_append_own _ rfl _ _ 45 rfl w.heap.size 3 i0 (.int .i64 0) 1 8 Tryz.underlying45 hi hz0 hz1 hz2 rfl (by decide) _ _ _ rfl (hown.alloc _) ⟨wr.heap.size,0,none⟩ 1 1 [.int .i64 x] rfl rfl ?d1 ?d2 ?d3 ?d4 ?d5 ?d6)
   case d1=>exact cell_one_new wr _ _
   case d2=>intro u hu;simp at hu;subst hu;rfl
   case d3=>unfold maxLen;omega
   case d4=>omega
   case d5=>simp;omega
   case d6=>
    intro v' w1 hown' hgrow _
    have hbel1:Below w.heap.size w w1:=(hbel.alloc hsz _).grown hgrow (by simp;omega) (aI hown)
    have HO:Hid (fq w (zs++[x]) (.returned v') w1):=by
     refine fq.mk (n:=k+1) (by simp;omega) ⟨?_,hbel1⟩
     rw[e]
     simpa using hown'
    clear hown' hgrow hbel1 hown hbel e
    go_wp2
    go_ret
    exact HO.out
set_option maxHeartbeats 400000 in
theorem CW(a b:Option Addr)(ca cb:Nat)(zs:List Int)(w:World)(h1:Row w .i64 a zs)(h2:Row w .i64 b zs)(hl:zs.length≤10000):
  Calls Tryz.prog 24 #[.slice a zs.length ca,.slice b zs.length cb] w fun e w'=>e=.returned (.bool true)∧Drw w w':=by
 go_enter Tryz.func24,Tryz.ntmps24
 go_wp2
 go_loopw [5] (fun i wr=>∃k:Nat,k≤zs.length∧i=.int .i64 k∧Drw w wr) (fun i _=>zs.length-(intOf i).toNat)
 case atStart=>exact⟨0,Nat.zero_le _,rfl,Drw.refl _⟩
 case round=>
  obtain⟨k,hk,rfl,hd⟩:=hrel
  by_cases hlt:k<zs.length
  ·obtain⟨b1,o1,rfl,hb1,hc1⟩:=(h1.drw hd) k hlt
   obtain⟨b2,o2,rfl,hb2,hc2⟩:=(h2.drw hd) k hlt
   go_wp2
   go_quiet (fail)
   go_wp2
   go_roundw
   case rel=>exact⟨k+1,by omega,by go_num,hd.step _⟩
   case measure=>simp[intOf];omega
  ·go_wp2
   go_ret
   exact⟨rfl,hd⟩
end Go.Proofs.YtjmifnljckmimaaGreat.Pk
