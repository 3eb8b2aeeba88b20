/-
  What the functions of package ring return: List; the bundles.
-/
import Derived.Test.YtjmifnljckmimaaGreatRingFn2Etc
import Derived.Test.YtjmifnljckmimaaGreatPoolDoEtc
import Derived.Test.YtjmifnljckmimaaGreatGroFnEtc
import Derived.OwnWalk
import Derived.Laws.OwnMore
namespace Go.Proofs.YtjmifnljckmimaaGreat.Pk
open Lib (hid)
open Go.RowKit
set_option linter.unusedVariables false
set_option linter.unusedSimpArgs false
theorem Jf{w w':World}{base:Nat}{e:TypeId}{size:Nat}{v:Value}{n:Nat}{xs:List Value}(h:w.ownsRow base e size v n xs)(hb:Below w.heap.size w w'):w'.ownsRow base e size v n xs:=by
 refine⟨h.1,?_⟩
 rcases h.2 with hn|⟨g,cap,cur,rfl,hbg,hgg,rest⟩
 ·exact .inl hn
 ·exact .inr ⟨g,cap,cur,rfl,hbg,(hb.block g (lt_of_block hgg)).trans hgg,rest⟩
theorem ib.later'{w wr w':World}{v:Value}{k:Nat}{zs:List Int}(h:ib w v k zs wr)(hb:Below wr.heap.size wr w'):ib w v k zs w':=⟨Jf h.1 hb,below_step h.2 hb⟩
theorem ib.slice{w wr:World}{v:Value}{k:Nat}{zs:List Int}(h:ib w v k zs wr):∃a cap,v=.slice a k cap:=by
 rcases h.1.2 with⟨rfl,rfl⟩|⟨g,cap,cur,rfl,_⟩
 ·exact⟨none,0,rfl⟩
 ·exact⟨_,cap,rfl⟩
def Qy(l:List Nat)(k:Nat):Int:=kJ (l.drop k)
theorem TR{l:List Nat}{k:Nat}(h:k<l.length):Qy l k=(l[k]:Int)+1:=by
 unfold Qy;rw[List.drop_eq_getElem_cons h];rfl
theorem Rt{l:List Nat}{k:Nat}(h:l.length≤k):Qy l k=0:=by
 unfold Qy;rw[List.drop_eq_nil_of_le h];rfl
theorem OP{c:Cf}{zs:List Int}{l:List Nat}(h:RingAt c zs l)(k:Nat)(hk:k<l.length):nth zs (ai c l[k] 7)=Qy l (k+1):=by
 have e:l=l.take k++l[k]::l.drop (k+1):=by rw[←List.drop_eq_getElem_cons hk,List.take_append_drop]
 have h2:RingAt c zs (l.take k++l[k]::l.drop (k+1)):=by rw[←e];exact h
 exact h2.split.2
theorem xD{l:List Nat}{k:Nat}(hk:k<l.length):(ints l).take (k+1)=(ints l).take k++[(l[k]:Int)]:=by
 unfold ints
 rw[List.take_succ_eq_append_getElem (by simpa using hk),List.getElem_map]
theorem Rb:kK 0=false:=by decide
theorem Uo(b:Int)(w:World):Calls Tryz.prog 135 #[.pointer none,.int .i64 b] w fun e w'=>e=.returned (.bool false)∧Below w.heap.size w w':=by
 go_enter Tryz.func135,Tryz.ntmps135
 go_wp2_with fail
 refine(Qv _ _ _).mono ?_
 rintro e w1 ⟨rfl,rfl⟩
 go_wp2_with fail
 refine(jW 0 _ (by omega) (by omega)).mono ?_
 rw[Rb]
 rintro e w1 ⟨rfl,hb⟩
 have HB:=hid hb
 clear hb
 go_wp2_with fail
 go_ret
 exact⟨rfl,HB.out⟩
def Vr:Value→Nat
 | .slice _ n _=>n
 |_=>0
set_option maxRecDepth 100000 in
set_option maxHeartbeats 2000000 in
theorem RP(p:Pl)(c:Cf)(s:St)(l:List Nat)(w:World)(hG:G w p c s)(hR:RingAt c s.zs l):
  Calls Tryz.prog 118 #[.pointer (some ⟨p.a,0,none⟩)] w (fA l w):=by
 obtain⟨i0,hi,hz0,hz1,hz2⟩:=info_parts (show(Tryz.prog.info? 3).map (fun i=>(i.zero,i.size,i.bytes))=some (some (.int .i64 0),1,8) by kernel_rfl)
 have HG:=hid hG
 have hm:=hG.may
 have hN:=hm.n
 have hlk:=di hR.nd hR.lt
 have hW:=hm.w
 have H7:Hid (7<c.W):=hid (by omega)
 have HC:=hid hR
 have HNx:=hid (OP hR)
 have hfd:=dM (c.N:Int) (c.W:Int) (c.R:Int) (c.K:Int)
 have H0:Hid (nth s.zs 7=Qy l 0):=hid hR.r7
 clear hG hR hm
 go_enter Tryz.func118,Tryz.ntmps118
 have HT0:Hid (Below w.heap.size w w):=hid (Below.refl _ _)
 go_wp2_with fail
 refine(dH p c s _ HG.out).mono ?_
 rintro e wm1 ⟨rfl,hb⟩
 have HG1:=hid (HG.out.later hb)
 have HT1:Hid (Below w.heap.size w wm1):=hid (below_step HT0.out hb)
 clear hb
 go_wp2_with fail
 refine(wT p c s 7 _ _ _ HG1.out (by omega) rfl H0.out).mono ?_
 rintro e wm0 ⟨rfl,rfl⟩
 go_wp2_with fail
 go_loopw [3,5] (fun v nm wr=>∃j:Nat,j≤l.length∧nm=.int .i64 (Qy l j)∧ib w v j ((ints l).take j) wr) (fun v _ _=>c.N-Vr v)
 case atStart=>
  refine⟨0,Nat.zero_le _,rfl,?_,HT1.out⟩
  exact World.ownsRow_nil _ _ _ _
 case round=>
  obtain⟨j,hj,rfl,hga⟩:=hrel
  obtain⟨a,cap,rfl⟩:=hga.slice
  have HGa:=hid hga
  have HG0:=HG
  have HGr:Hid (G wr p c s):=hid (HG0.out.later hga.2)
  clear hga
  by_cases hlt:j<l.length
  ·have hjN:j<c.N:=by omega
   have hb:l[j]<c.N:=HC.out.lt _ (List.getElem_mem hlt)
   have HTk:=hid (xD hlt)
   have HNm:=TR hlt
   rw[HNm]
   have HN1:=hid (HNx.out j hlt)
   have hwf:=HG0.out.wf (ai c l[j] 7)
   rw[HN1.out] at hwf
   clear HNm
   generalize l[j]=b at*
   have i1:IntKind.i64.wrap (Qy l (j+1))=Qy l (j+1):=IntWalk.i64_in _ (by omega)
   have i2:IntKind.i64.wrap ((b:Int)+1-1)=(b:Int):=by rw[Int.add_sub_cancel];exact IntWalk.i64_in _ (by omega)
   have hown:=HGa.out.1
   have hsz:=HGa.out.2.size
   go_wp2_with (at_builtin;refine wpList_append_own _ rfl _ _ 45 rfl w.heap.size 3 i0 (.int .i64 0) 1 8 Tryz.underlying45 hi hz0 hz1 hz2 rfl (by decide) _ _ _ rfl (hown.alloc _) ⟨wr.heap.size,0,none⟩ 1 1 [.int .i64 (b:Int)] rfl rfl ?c1 ?c2 ?c3 ?c4 ?c5 ?c6)
   case c1=>exact cell_one_new wr _ _
   case c2=>intro u hu;simp at hu;subst hu;rfl
   case c3=>unfold maxLen;omega
   case c4=>omega
   case c5=>simp;omega
   case c6=>
    intro v' w4 hown' hgrow _
    have hbel1:Below w.heap.size w w4:=(HGa.out.2.alloc hsz _).grown hgrow (by simp;omega) (aN hown)
    have HG4:Hid (ib w v' (j+1) ((ints l).take (j+1)) w4):=hid (by
     refine⟨?_,hbel1⟩
     rw[HTk.out]
     simpa using hown')
    have HGr4:Hid (G w4 p c s):=hid (HG0.out.later hbel1)
    clear hown' hgrow hbel1 hown hsz
    go_wp2_with fail
    refine(qo p c s b 7 _ _ _ _ HGr4.out hb H7.out (by first|rfl|exact i2) rfl HN1.out).mono ?_
    rintro e w5 ⟨rfl,hd⟩
    have HG5:=hid (HG4.out.later' hd.new)
    clear hd
    go_wp2_with fail
    go_roundw
    case rel=>exact⟨j+1,by omega,rfl,HG5.out⟩
    case measure=>
     obtain⟨a2,cap2,rfl⟩:=HG5.out.slice
     simp[Vr];omega
  ·have he:j=l.length:=by omega
   have HNm:Qy l j=0:=Rt (by omega)
   rw[HNm]
   have HO:Hid (fA l w (.returned (.slice a j cap)) wr):=hid (by
    have h1:=HGa.out
    rw[he,←aC l,List.take_length,aC] at h1
    rw[he]
    exact(dQ.mk (aC l).symm h1).Md rfl)
   clear he HNm
   by_cases hjN:j<c.N
   ·go_wp2_with fail
    go_ret
    exact HO.out
   ·go_wp2_with fail
    go_ret
    exact HO.out
theorem CO:Bw where
 take_yes:=fun c zs l b hz hR=>⟨11,by omega,fun p m w hG=>FR p c ⟨zs,m⟩ b l w hG hR⟩
 take_no:=fun c zs hz hR=>⟨1,by omega,fun p m w hG=>Jo p c ⟨zs,m⟩ w hG hR⟩
 list:=fun c zs l hz hR p m w hG=>RP p c ⟨zs,m⟩ l w hG hR
end Go.Proofs.YtjmifnljckmimaaGreat.Pk
