/-
  Texts laid together: RefSee, GravLike.
-/
import Derived.Test.YtjmifnljckmimaaGreatRefG3Etc
import Derived.Test.YtjmifnljckmimaaGreatGravGrownEtc
namespace Go.Proofs.YtjmifnljckmimaaGreat.Pk
open Lib (hid)
open Go.RowKit
set_option linter.unusedVariables false
set_option linter.unusedSimpArgs false
set_option maxRecDepth 100000
def FC(v:Nat)(t:Th):List Int:=(List.range t.pt.length).map (fun i=>if fK v t i then 0 else nth t.pt i)
def Ho(v:Nat)(t:Th):List Int:=(List.range t.dt.length).map (fun i=>if fK v t (t.pt.length+i) then 0 else nth t.dt i)
theorem lV(v:Nat)(t:Th):(FC v t).length=t.pt.length:=by simp[FC]
theorem nY(v:Nat)(t:Th):(Ho v t).length=t.dt.length:=by simp[Ho]
theorem RD{v:Nat}{t:Th}{i:Nat}(h:i<t.pt.length):nth (FC v t) i=if fK v t i then 0 else nth t.pt i:=by
 show(FC v t).getD i 0=_
 unfold FC
 simp[List.getD,h]
theorem QM{v:Nat}{t:Th}{i:Nat}(h:i<t.dt.length):nth (Ho v t) i=if fK v t (t.pt.length+i) then 0 else nth t.dt i:=by
 show(Ho v t).getD i 0=_
 unfold Ho
 simp[List.getD,h]
section
variable {w w':World} {lo:Nat} {lab:Nat→Nat} {a:WA} {D:Wd} {i:Nat} {t t':Th} {x:TA} {n v b:Nat} {c:Cf} {zs:List Int}
def QD(v:Nat)(t:Th)(w:World)(e:Ending)(w':World):Prop:=
 ∃a1 c1 a2 c2,e=.returned (.tuple #[.agg #[.slice a1 t.pt.length c1,.slice a2 t.dt.length c2],.bool true])∧Row w' .i64 a1 (FC v t)∧Row w' .u32 a2 (Ho v t)∧Below w.heap.size w w'
theorem vI(hw:16≤c.W){k:Nat}(hk:k<t.pt.length+t.dt.length)(hb:¬t.pt.length+t.dt.length≤c.W-8→k/(c.W-1)<t.lv.length):(bg c t.ob k).isSome= !fK c.W t k:=by
 have e:t.ob.f=t.pt.length+t.dt.length:=rfl
 unfold bg bH fK
 rw[e]
 by_cases h:t.pt.length+t.dt.length≤c.W-8
 ·simp[h]
 ·have hj:=hb h
  simp only[h,if_false,decide_false,Bool.not_false,Bool.true_and]
  have hl:t.ob.lv[k/(c.W-1)]? =some ((nth t.lv (k/(c.W-1))+1).toNat):=by
   show(t.lv.map _)[_]? =_
   rw[List.getElem?_map]
   unfold nth
   simp[List.getD,hj]
  rw[hl]
  by_cases hn:nth t.lv (k/(c.W-1))<0
  ·rw[show(nth t.lv (k/(c.W-1))+1).toNat=0 by omega]
   simp[hn]
  ·obtain⟨m,hm⟩:∃m,(nth t.lv (k/(c.W-1))+1).toNat=m+1:=⟨(nth t.lv (k/(c.W-1))).toNat,by omega⟩
   rw[hm]
   simp[hn]
theorem aG.Nc(R:aG c zs D)(hm:c.May)(S:San D)(htl:t∈D.live):Hm D.w t:=by
 have ho:=R.heap.bZ t.ob (R.bN htl)
 have hw:=hm.w
 have e:t.ob.f=t.pt.length+t.dt.length:=rfl
 have h1:=ho.size
 rw[e] at h1
 rw[R.w]
 refine⟨by omega,by omega,h1,fun hb=> ?_⟩
 have g:=(S.ok t htl).uz.big (by rw[R.w];exact hb)
 rw[R.w] at g
 exact g.2
theorem Vy(R:aG c zs D)(hm:c.May)(S:San D)(htl:t∈D.live):kM c zs t.ob=FC D.w t:=by
 have z:=R.Nc hm S htl
 have hw:=R.w
 rw[hw] at z ⊢
 refine List.map_congr_left (fun k hk=> ?_)
 have h2:k<t.pt.length:=List.mem_range.1 hk
 have h3:=vI (c:=c) (t:=t) (k:=k) z.w0 (by omega) (fun hb=>z.leaf hb (by omega))
 unfold iw
 cases ha:bg c t.ob k with
 |some q=>
  rw[ha] at h3
  have h4:fK c.W t k=false:=by simpa using h3
  rw[if_neg (by rw[h4];decide)]
  show nth zs q=_
  rw[R.wM t htl k q (by unfold Th.ob Ob.f;simp;omega) ha]
  unfold Th.wM
  rw[if_pos h2]
 |none=>
  rw[ha] at h3
  have h4:fK c.W t k=true:=by simpa using h3
  rw[if_pos h4]
theorem Vj(R:aG c zs D)(hm:c.May)(S:San D)(htl:t∈D.live):gL c zs t.ob=Ho D.w t:=by
 have z:=R.Nc hm S htl
 have hw:=R.w
 rw[hw] at z ⊢
 refine List.map_congr_left (fun k hk=> ?_)
 have h2:k<t.dt.length:=List.mem_range.1 hk
 have e:t.ob.np+k=t.pt.length+k:=rfl
 rw[e]
 have h3:=vI (c:=c) (t:=t) (k:=t.pt.length+k) z.w0 (by omega) (fun hb=>z.leaf hb (by omega))
 unfold iw
 cases ha:bg c t.ob (t.pt.length+k) with
 |some q=>
  rw[ha] at h3
  have h4:fK c.W t (t.pt.length+k)=false:=by simpa using h3
  rw[if_neg (by rw[h4];decide)]
  show nth zs q=_
  rw[R.wM t htl (t.pt.length+k) q (by unfold Th.ob Ob.f;simp;omega) ha]
  unfold Th.wM
  rw[if_neg (by omega),Nat.add_sub_cancel_left]
 |none=>
  rw[ha] at h3
  have h4:fK c.W t (t.pt.length+k)=true:=by simpa using h3
  rw[if_pos h4]
theorem QQ{wr:World}{p:Pl}{r:Int}(S:San D)(hf:D.find r=some t)(h:ic w p c D wr):Calls Tryz.prog 23 #[.pointer (some ⟨p.a,0,none⟩),.int .i64 r] wr (QD D.w t wr):=by
 refine h.looks (f:=23) (args:=[.int .i64 r]) (Q:=QD D.w t) (fun zs hz R=> ?_)
 obtain⟨htl,e⟩:=ax hf
 have hl:=kL.see_yes c zs D.clean D.bZ t.ob hz R.heap (R.bN htl)
 have e':((t.ob.h:Nat):Int)+1=r:=e
 rw[e'] at hl
 have hp:=Vy R hz.may S htl
 have hq:=Vj R hz.may S htl
 intro p m w hG
 refine(hl p m w hG).mono ?_
 rintro e w' ⟨a1,c1,a2,c2,rfl,r1,r2,f1,f2,f12,hb,e1,e2⟩
 rw[hp] at r1
 rw[hq] at r2
 exact⟨a1,c1,a2,c2,rfl,r1.row,r2.row,hb⟩
theorem Vq:(Tryz.prog.info? 119).map (fun i=>(i.zero,i.size,i.bytes))=some (some (.int .u32 0),1,4):=by kernel_rfl
def SC(w:World)(v1:Value)(k:Nat)(l:List Int)(wr:World):Prop:=
 wr.ownsRow (w.heap.size+2) 3 1 v1 k (l.map (Value.int .i64))∧aT wr (w.heap.size+1) #[v1,.slice none 0 0] 57∧aT wr w.heap.size #[.slice none 0 0,.slice none 0 0] 57∧Below w.heap.size w wr
def SE(w w8:World)(v1 v2:Value)(k:Nat)(l:List Int)(wr:World):Prop:=
 wr.ownsRow w8.heap.size 119 1 v2 k (l.map (Value.int .u32))∧aT wr (w.heap.size+1) #[v1,v2] 57∧aT wr w.heap.size #[.slice none 0 0,.slice none 0 0] 57∧Touch (fun b=>b=w.heap.size+1) w8 wr
theorem SC.push{w w1:World}{v1 v':Value}{k:Nat}{l:List Int}{y:Int}{wr:World}(h:SC w v1 k l wr)(hk:l.length=k)(ho:w1.ownsRow (w.heap.size+2) 3 1 v' (k+1) ((l++[y]).map (Value.int .i64)))(hg:(wr.alloc (.cells #[.int .i64 y] 3)).grownBy w1 v1.ownBlock):
  SC w v' (k+1) (l++[y]) (w1.setCell ⟨w.heap.size+1,0,none⟩ v')∧w1.cell? ⟨w.heap.size+1,0,none⟩=some v1∧w1.frozen? ⟨w.heap.size+1,0,none⟩=false:=by
 obtain⟨h1,h2,h3,h4⟩:=h
 have hn:∀g,v1.ownBlock=some g→w.heap.size+2≤g:=aN h1
 have T:Touch (fun q=>w.heap.size+2≤q) wr w1:=(Touch.of_below (below_new wr _)).trans ((dB hg).mono (fun q _ e=>hn q e))
 have hB:=h2.touch T (by omega)
 have hZ:=h3.touch T (by omega)
 refine⟨⟨?_,hB.put 0 v' rfl,hZ.other (by show w.heap.size+1≠w.heap.size;omega) _,?_⟩,hB.cell 0 rfl,hB.free 0⟩
 ·exact bR ho ((Touch.refl (fun q=>q=w.heap.size+1) w1).setCell (p:=⟨w.heap.size+1,0,none⟩) (fun _=>rfl) v') (fun g hgg e=>by have:=aN ho g hgg;omega)
 ·exact(h4.trans (T.below (fun q hq=>by omega) h4.size)).setCell (by show w.heap.size≤w.heap.size+1;omega) _
theorem SE.push{w w8 w1:World}{v1 v2 v':Value}{k:Nat}{l:List Int}{y:Int}{wr:World}(h:SE w w8 v1 v2 k l wr)(hs:w.heap.size+2≤w8.heap.size)(ho:w1.ownsRow w8.heap.size 119 1 v' (k+1) ((l++[y]).map (Value.int .u32)))(hg:(wr.alloc (.cells #[.int .u32 y] 119)).grownBy w1 v2.ownBlock):
  SE w w8 v1 v' (k+1) (l++[y]) (w1.setCell ⟨w.heap.size+1,1,none⟩ v')∧w1.cell? ⟨w.heap.size+1,1,none⟩=some v2∧w1.frozen? ⟨w.heap.size+1,1,none⟩=false:=by
 obtain⟨h1,h2,h3,h4⟩:=h
 have hn:∀g,v2.ownBlock=some g→w8.heap.size≤g:=aN h1
 have T:Touch (fun q=>w8.heap.size≤q) wr w1:=(Touch.of_below (below_new wr _)).trans ((dB hg).mono (fun q _ e=>hn q e))
 have hB:=h2.touch T (by omega)
 have hZ:=h3.touch T (by omega)
 have T8:Touch (fun q=>q=w.heap.size+1) w8 w1:=by
  have:=h4.size
  refine⟨T.os.trans h4.os,T.tape.trans h4.tape,T.output.trans h4.output,Nat.le_trans h4.size T.size,fun q hq hx=> ?_⟩
  exact(T.block q (by omega) (by omega)).trans (h4.block q hq hx)
 refine⟨⟨?_,hB.put 1 v' rfl,hZ.other (by show w.heap.size+1≠w.heap.size;omega) _,T8.setCell (p:=⟨w.heap.size+1,1,none⟩) (fun _=>rfl) v'⟩,hB.cell 1 rfl,hB.free 1⟩
 exact bR ho ((Touch.refl (fun q=>q=w.heap.size+1) w1).setCell (p:=⟨w.heap.size+1,1,none⟩) (fun _=>rfl) v') (fun g hgg e=>by have:=aN ho g hgg;omega)
theorem SC.dF{w:World}{v1:Value}{k:Nat}{l:List Int}{wr w2:World}(h:SC w v1 k l wr)(d:dK wr w2):SC w v1 k l w2:=by
 obtain⟨m,rfl⟩:=d
 exact⟨h.1,h.2.1,h.2.2.1,h.2.2.2.trans (dK.below ⟨m,rfl⟩ _)⟩
theorem SE.dF{w w8:World}{v1 v2:Value}{k:Nat}{l:List Int}{wr w2:World}(h:SE w w8 v1 v2 k l wr)(d:dK wr w2):SE w w8 v1 v2 k l w2:=by
 obtain⟨m,rfl⟩:=d
 exact⟨h.1,h.2.1,h.2.2.1,h.2.2.2.drewN m⟩
theorem rC(w:World)(y:Int):∀j z,[Value.int .u32 y][j]? =some z→(w.alloc (.cells #[.int .u32 y] 119)).cell? ((⟨w.heap.size,0,none⟩:Addr).add j)=some z:=tC w (.int .u32 y) 119
set_option maxHeartbeats 4000000 in
theorem Vp(h:az w lo lab a D){r:Int}(hf:D.find r=some t)(z:Hm D.w t):
  Calls Tryz.prog 66 #[.pointer (some ⟨a.hb,0,none⟩),.int .i64 r] w (QD D.w t w):=by
 obtain⟨i0,hinf,hz0,hz1,hz2⟩:=info_parts jy
 obtain⟨j0,jinf,jz0,jz1,jz2⟩:=info_parts Vq
 obtain⟨i,x,hi,ht,hx⟩:=h.found hf
 have HC:=hid (fun w' (h':az w' lo lab a D)=>aY h' hi hx)
 have HS:=hid (fun w' (h':az w' lo lab a D) k (hk:k<t.pt.length+t.dt.length)=>Oh h' ht hx z hk)
 have HTA:=hid (fun w' (h':az w' lo lab a D)=>h'.h.th i t x ht hx)
 have hsm:=z.small
 have H:=hid h
 clear h hf hi ht hx z
 go_enter Tryz.func66,Tryz.ntmps66
 go_wp2_with fail
 have HB0:=hid (below_new w (.cells #[.slice none 0 0,.slice none 0 0] 57))
 refine(HC.out _ (H.out.later HB0.out)).mono ?_
 rintro e w1 ⟨rfl,rfl⟩
 go_wp2_with fail
 have HG0:Hid (SC w (.slice none 0 0) 0 [] ((w.alloc (.cells #[.slice none 0 0,.slice none 0 0] 57)).alloc (.cells #[.slice none 0 0,.slice none 0 0] 57))):=hid (by
  have hb:=aT.new (w.alloc (.cells #[.slice none 0 0,.slice none 0 0] 57)) #[.slice none 0 0,.slice none 0 0] 57
  have hs:(w.alloc (.cells #[.slice none 0 0,.slice none 0 0] 57)).heap.size=w.heap.size+1:=by simp
  rw[hs] at hb
  exact⟨World.ownsRow_nil _ _ _ _,hb,(aT.new w _ _).alloc _,below_step (below_new w _) (below_new _ _)⟩)
 go_loopw [8] (fun s wr=>∃k:Nat,k≤t.pt.length∧s=.int .i64 (k:Int)∧∃v1,SC w v1 k ((FC D.w t).take k) wr) (fun s _=>t.pt.length-(intOf s).toNat)
 case atStart=>exact⟨0,Nat.zero_le _,rfl,_,HG0.out⟩
 case round=>
  obtain⟨k,hk,rfl,v1,hG⟩:=hrel
  have HGk:=hid hG
  have HW:=hid (H.out.later hG.2.2.2)
  have hT:=HTA.out _ HW.out
  have d2:=hT.c2
  by_cases hlt:k<t.pt.length
  ·obtain⟨gp,hpa,hgp,gpc,_⟩:=hT.pt.at hlt
   rw[hpa] at d2
   have HSk:=HS.out _ HW.out k (by omega)
   have HL:Hid ((FC D.w t).take (k+1)=(FC D.w t).take k++[if fK D.w t k then 0 else nth t.pt k]):=hid (by rw[jh (by rw[lV];exact hlt),RD hlt])
   have HLn:Hid (((FC D.w t).take k).length=k):=hid (by rw[List.length_take,lV];omega)
   cases hs:fK D.w t k with
   |true=>
    rw[hs] at HSk HL
    have HSk:=hid HSk
    clear hG hT hpa hs
    go_wp2_with fail
    refine HSk.out.mono ?_
    rintro e w2 ⟨rfl,hd⟩
    have HGm:=hid (HGk.out.dF hd)
    clear hd
    have hown:=HGm.out.1
    have hsz:=HGm.out.2.1.lt
    have c7:=HGm.out.2.1.cell 0 rfl
    go_wp2_with (at_builtin;refine wpList_append_own _ rfl _ _ 45 rfl (w.heap.size+2) 3 i0 (.int .i64 0) 1 8 Tryz.underlying45 hinf hz0 hz1 hz2 rfl (by decide) _ _ _ rfl (hown.alloc _) ⟨w2.heap.size,0,none⟩ 1 1 [.int .i64 0] rfl rfl ?c1 ?c2 ?c3 ?c4 ?c5 ?c6)
    case c1=>exact cell_one_new w2 _ _
    case c2=>intro u hu;simp at hu;subst hu;rfl
    case c3=>unfold maxLen;omega
    case c4=>omega
    case c5=>simp;omega
    case c6=>
     intro v' w6 hown' hgrow _
     obtain⟨⟨o',cap',rfl⟩,_⟩:=jf hown'
     have hp:=HGm.out.push HLn.out (y:=0) (by simpa using hown') hgrow
     have HP:=hid hp.1
     have q7:=hp.2.1
     have g7:=hp.2.2
     clear hown' hgrow hown hsz hp c7
     go_wp2_with fail
     go_roundw
     case rel=>exact⟨k+1,by omega,by go_num,_,by rw[HL.out];exact HP.out⟩
     case measure=>simp[intOf];omega
   |false=>
    rw[hs] at HSk HL
    have HSk:=hid HSk
    clear hG hT hpa hs
    go_wp2_with fail
    refine HSk.out.mono ?_
    rintro e w2 ⟨rfl,hd⟩
    have HGm:=hid (HGk.out.dF hd)
    clear hd
    have hown:=HGm.out.1
    have hsz:=HGm.out.2.1.lt
    have c7:=HGm.out.2.1.cell 0 rfl
    go_wp2_with (at_builtin;refine wpList_append_own _ rfl _ _ 45 rfl (w.heap.size+2) 3 i0 (.int .i64 0) 1 8 Tryz.underlying45 hinf hz0 hz1 hz2 rfl (by decide) _ _ _ rfl (hown.alloc _) ⟨w2.heap.size,0,none⟩ 1 1 [.int .i64 (nth t.pt k)] rfl rfl ?c1 ?c2 ?c3 ?c4 ?c5 ?c6)
    case c1=>exact cell_one_new w2 _ _
    case c2=>intro u hu;simp at hu;subst hu;rfl
    case c3=>unfold maxLen;omega
    case c4=>omega
    case c5=>simp;omega
    case c6=>
     intro v' w6 hown' hgrow _
     obtain⟨⟨o',cap',rfl⟩,_⟩:=jf hown'
     have hp:=HGm.out.push HLn.out (y:=(nth t.pt k)) (by simpa using hown') hgrow
     have HP:=hid hp.1
     have q7:=hp.2.1
     have g7:=hp.2.2
     clear hown' hgrow hown hsz hp c7
     go_wp2_with fail
     go_roundw
     case rel=>exact⟨k+1,by omega,by go_num,_,by rw[HL.out];exact HP.out⟩
     case measure=>simp[intOf];omega
  ·obtain rfl:k=t.pt.length:=by omega
   generalize wr=wr8 at*
   have HS8:Hid (w.heap.size+2≤wr8.heap.size):=hid (by have:=HGk.out.2.1.lt;omega)
   have HQ0:Hid (SE w wr8 v1 (.slice none 0 0) 0 [] wr8):=hid ⟨World.ownsRow_nil _ _ _ _,HGk.out.2.1,HGk.out.2.2.1,Touch.refl _ _⟩
   clear hG hT
   go_wp2_with fail
   go_loopw [10] (fun s wr=>∃k:Nat,k≤t.dt.length∧s=.int .i64 (k:Int)∧∃v2,SE w wr8 v1 v2 k ((Ho D.w t).take k) wr) (fun s _=>t.dt.length-(intOf s).toNat)
   case atStart=>exact⟨0,Nat.zero_le _,rfl,_,HQ0.out⟩
   case round=>
    clear hlt d2
    obtain⟨k,hk,rfl,v2,hG⟩:=hrel
    have HGq:=hid HGk.out
    clear HGk
    have HGk:=hid hG
    have HBw:Hid (Below w.heap.size w wr):=hid (HGq.out.2.2.2.trans (hG.2.2.2.below (fun q hq=>by omega) HGq.out.2.2.2.size))
    have HW2:=hid (H.out.later HBw.out)
    have hT:=HTA.out _ HW2.out
    have d2:=hT.c2
    have d3:=hT.c3
    by_cases hlt:k<t.dt.length
    ·obtain⟨gp,hpa,hgp,gpc,_⟩:=hT.dt.at hlt
     rw[hpa] at d3
     have HSk:=HS.out _ HW2.out (t.pt.length+k) (by omega)
     have hwr:IntKind.i64.wrap ((t.pt.length:Int)+(k:Int))=((t.pt.length+k:Nat):Int):=by rw[Int.natCast_add];exact IntWalk.i64_in _ (by omega)
     have HL:Hid ((Ho D.w t).take (k+1)=(Ho D.w t).take k++[if fK D.w t (t.pt.length+k) then 0 else nth t.dt k]):=hid (by rw[jh (by rw[nY];exact hlt),QM hlt])
     cases hs:fK D.w t (t.pt.length+k) with
     |true=>
      rw[hs] at HSk HL
      have HSk:=hid HSk
      clear hG hT hpa hs
      go_wp2_with fail
      refine HSk.out.mono ?_
      rintro e w2 ⟨rfl,hd⟩
      have HGm:=hid (HGk.out.dF hd)
      clear hd
      have hown:=HGm.out.1
      have hsz:=HGm.out.2.2.2.size
      have c7:=HGm.out.2.1.cell 1 rfl
      go_wp2_with (at_builtin;refine wpList_append_own _ rfl _ _ 55 rfl wr8.heap.size 119 j0 (.int .u32 0) 1 4 Tryz.underlying55 jinf jz0 jz1 jz2 rfl (by decide) _ _ _ rfl (hown.alloc _) ⟨w2.heap.size,0,none⟩ 1 1 [.int .u32 0] rfl rfl ?c1 ?c2 ?c3 ?c4 ?c5 ?c6)
      case c1=>exact rC w2 _
      case c2=>intro u hu;simp at hu;subst hu;rfl
      case c3=>unfold maxLen;omega
      case c4=>omega
      case c5=>simp;omega
      case c6=>
       intro v' w6 hown' hgrow _
       obtain⟨⟨o',cap',rfl⟩,_⟩:=jf hown'
       have hp:=HGm.out.push HS8.out (y:=0) (by simpa using hown') hgrow
       have HP:=hid hp.1
       have q7:=hp.2.1
       have g7:=hp.2.2
       clear hown' hgrow hown hsz hp c7
       go_wp2_with fail
       go_roundw
       case rel=>exact⟨k+1,by omega,by go_num,_,by rw[HL.out];exact HP.out⟩
       case measure=>simp[intOf];omega
     |false=>
      rw[hs] at HSk HL
      have HSk:=hid HSk
      clear hG hT hpa hs
      go_wp2_with fail
      refine HSk.out.mono ?_
      rintro e w2 ⟨rfl,hd⟩
      have HGm:=hid (HGk.out.dF hd)
      clear hd
      have hown:=HGm.out.1
      have hsz:=HGm.out.2.2.2.size
      have c7:=HGm.out.2.1.cell 1 rfl
      go_wp2_with (at_builtin;refine wpList_append_own _ rfl _ _ 55 rfl wr8.heap.size 119 j0 (.int .u32 0) 1 4 Tryz.underlying55 jinf jz0 jz1 jz2 rfl (by decide) _ _ _ rfl (hown.alloc _) ⟨w2.heap.size,0,none⟩ 1 1 [.int .u32 (nth t.dt k)] rfl rfl ?c1 ?c2 ?c3 ?c4 ?c5 ?c6)
      case c1=>exact rC w2 _
      case c2=>intro u hu;simp at hu;subst hu;rfl
      case c3=>unfold maxLen;omega
      case c4=>omega
      case c5=>simp;omega
      case c6=>
       intro v' w6 hown' hgrow _
       obtain⟨⟨o',cap',rfl⟩,_⟩:=jf hown'
       have hp:=HGm.out.push HS8.out (y:=(nth t.dt k)) (by simpa using hown') hgrow
       have HP:=hid hp.1
       have q7:=hp.2.1
       have g7:=hp.2.2
       clear hown' hgrow hown hsz hp c7
       go_wp2_with fail
       go_roundw
       case rel=>exact⟨k+1,by omega,by go_num,_,by rw[HL.out];exact HP.out⟩
       case measure=>simp[intOf];omega
    ·obtain rfl:k=t.dt.length:=by omega
     have h1:=HGq.out.1
     have h2:=HGk.out.1
     have e1:(FC D.w t).take t.pt.length=FC D.w t:=List.take_of_length_le (by rw[lV];exact Nat.le_refl _)
     have e2:(Ho D.w t).take t.dt.length=Ho D.w t:=List.take_of_length_le (by rw[nY];exact Nat.le_refl _)
     rw[e1] at h1
     rw[e2] at h2
     have f1:∀g,v1.ownBlock=some g→w.heap.size+2≤g:=aN h1
     have l1:=lV D.w t
     have l2:=nY D.w t
     obtain⟨a1,c1,ev1,r1⟩:∃a1 c1,v1=.slice a1 t.pt.length c1∧Row wr8 .i64 a1 (FC D.w t):=by
      have:=Row.ow (v:=v1) (zs:=FC D.w t) (by rw[l1];exact h1)
      rw[l1] at this
      exact this
     obtain⟨a2,c2,ev2,r2⟩:∃a2 c2,v2=.slice a2 t.dt.length c2∧Row wr .u32 a2 (Ho D.w t):=by
      have:=Row.ow (v:=v2) (zs:=Ho D.w t) (by rw[l2];exact h2)
      rw[l2] at this
      exact this
     subst ev1 ev2
     have HR1:Hid (Row wr .i64 a1 (FC D.w t)):=hid (r1.touch HGk.out.2.2.2 (fun _ b off e hx=>by
      subst e
      have hx:b=w.heap.size+1:=hx
      have hf:=f1 b rfl
      omega))
     have HR2:=hid r2
     have z0:=HGk.out.2.1.cell 0 rfl
     have z1:=HGk.out.2.1.cell 1 rfl
     have y0:=HGk.out.2.2.1.cell 0 rfl
     have y1:=HGk.out.2.2.1.cell 1 rfl
     have g0:=HGk.out.2.2.1.free 0
     have g1:=HGk.out.2.2.1.free 1
     have hlx:=HGk.out.2.2.1.lt
     have HT2:Hid (Touch (fun q=>q=w.heap.size) wr ((wr.setCell ⟨w.heap.size,0,none⟩ (.slice a1 t.pt.length c1)).setCell ⟨w.heap.size,1,none⟩ (.slice a2 t.dt.length c2))):=hid (((Touch.refl (fun q=>q=w.heap.size) wr).setCell (p:=⟨w.heap.size,0,none⟩) (fun _=>rfl) _).setCell (p:=⟨w.heap.size,1,none⟩) (fun _=>rfl) _)
     have HF1:Hid (lC (fun q=>q=w.heap.size) a1 (FC D.w t)):=hid (fun _ b off e hx=>by
      subst e
      have hx:b=w.heap.size:=hx
      have hf:=f1 b rfl
      omega)
     have HF2:Hid (lC (fun q=>q=w.heap.size) a2 (Ho D.w t)):=hid (fun _ b off e hx=>by
      subst e
      have hx:b=w.heap.size:=hx
      have hf:=aN h2 b rfl
      have:=HS8.out
      omega)
     clear hG hT h1 h2 e1 e2 f1 l1 l2 r1 r2
     go_wp2_with fail
     exact bodyPost_ret (v:=.tuple #[.agg #[.slice a1 t.pt.length c1,.slice a2 t.dt.length c2],.bool true]) (by simp[results,Tryz.results66,go_sem,y0,y1,hlx]) rfl ⟨a1,c1,a2,c2,rfl,HR1.out.touch HT2.out HF1.out,HR2.out.touch HT2.out HF2.out,HBw.out.trans (HT2.out.below (fun q hq=>by omega) HBw.out.size)⟩
end
section
variable {w wr w':World} {p:Pl} {q lo:Nat} {c:Cf} {D D2:Wd} {t:Th}
theorem bT.WO(h:bT wr lo q D){r:Int}(hf:D.find r=some t)(z:Hm D.w t):∃hb,wr.cell? ⟨q,0,none⟩=some (.pointer (some ⟨hb,0,none⟩))∧Calls Tryz.prog 66 #[.pointer (some ⟨hb,0,none⟩),.int .i64 r] wr (QD D.w t wr):=by
 obtain⟨lab,a,rfl,k⟩:=h
 exact⟨a.hb,k.c0,Vp k hf z⟩
theorem bT.Tk(h:bT wr lo q D)(r:Int):Calls Tryz.prog 58 #[.pointer (some ⟨q,0,none⟩),.int .i64 r] wr fun e w'=>e=.returned (.int .i64 (D.cnt r))∧wr=w':=by
 obtain⟨lab,a,rfl,k⟩:=h
 exact gX k r
theorem bT.WU(h:bT wr lo q D):q<wr.heap.size:=by
 obtain⟨lab,a,rfl,k⟩:=h
 exact k.wb.lt
structure Vb (D:Wd):Prop where
 lq:LQ D
 gl:D.grave.length≤8000
 cl:D.clean.length≤8000
 san:San D
 sz:∀t,t∈D.live→Hm D.w t∧t.pt.length≤10000∧t.dt.length≤10000
theorem Mq{k:Nat}(S:San D)(hk:k<D.refs.length):∃t,t∈D.live∧nth D.refs k=(t.h:Int)+1∧D.find (nth D.refs k)=some t:=by
 have e:nth D.refs k=D.refs[k]:=by unfold nth;simp[List.getD,hk]
 have hm:D.refs[k]∈iQ D.ts:=List.getElem_mem hk
 unfold iQ at hm
 obtain⟨t,ht,hx⟩:=List.mem_flatMap.1 hm
 cases he:t.ended with
 |true=>rw[he] at hx;simp at hx
 |false=>
  rw[he] at hx
  simp at hx
  have htl:t∈D.live:=gM.2 ⟨ht,he⟩
  exact⟨t,htl,by rw[e];exact hx,by rw[e,hx];exact S.ja htl⟩
set_option maxHeartbeats 4000000 in
theorem rG(h:qA w p q lo c D D wr)(hl:Vb D):
  Calls Tryz.prog 14 #[.pointer (some ⟨p.a,0,none⟩),.pointer (some ⟨q,0,none⟩)] wr fun e w'=>e=.returned (.bool true)∧qA w p q lo c D D w'∧Touch (ah p) wr w':=by
 have H0:=hid h
 have HL:=hid hl
 have HX:Hid (∀b,lo≤b→¬ah p b):=hid (fun b hb hx=>h.2.2.1 b hb (Or.inr hx))
 obtain⟨hb,ca,cc,ga,gc,HN⟩:∃hb ca cc ga gc,Hid (∀w',(RL w p q lo c D D).r wr w'→w'.cell? ⟨q,0,none⟩=some (.pointer (some ⟨hb,0,none⟩))∧w'.cell? ⟨hb,2,none⟩=some (.slice ca D.clean.length cc)∧w'.cell? ⟨q,12,none⟩=some (.slice ga D.grave.length gc)∧w'.cell? ⟨q,13,none⟩=some (.int .i64 D.pending)∧Row w' .i64 ca (ints D.clean)∧Row w' .i64 ga (ints D.grave)):=by
  obtain⟨lab,a,rfl,k⟩:=h.2.1
  refine⟨a.hb,a.ca,a.cc,a.ga,a.gc,hid (fun w' h=> ?_)⟩
  have k':=k.touch h.2 (fun b hb _ hx=>HX.out b hb hx)
  exact⟨k'.c0,k'.h.c2,k'.c12,k'.c13,k'.h.crow,k'.gv⟩
 have cc0:=fun w' (h:(RL w p q lo c D D).r wr w')=>(HN.out w' h).1
 have ch2:=fun w' (h:(RL w p q lo c D D).r wr w')=>(HN.out w' h).2.1
 have cc12:=fun w' (h:(RL w p q lo c D D).r wr w')=>(HN.out w' h).2.2.1
 have cc13:=fun w' (h:(RL w p q lo c D D).r wr w')=>(HN.out w' h).2.2.2.1
 have HLk:∀w',(RL w p q lo c D D).r wr w'→Calls Tryz.prog 61 #[.pointer (some ⟨p.a,0,none⟩),.pointer (some ⟨q,0,none⟩)] w' fun e w''=>e=.returned (.bool true)∧(RL w p q lo c D D).r w' w'':=fun w' h=>(Di CO tintFns (h.1 H0.out) HL.out.lq).mono fun e w'' ⟨e1,e2,e3⟩=>⟨e1,fun _=>e2,e3⟩
 have HSe:∀w',(RL w p q lo c D D).r wr w'→Calls Tryz.prog 64 #[.pointer (some ⟨p.a,0,none⟩)] w' fun e w''=>e=.returned (.int .i64 D.pending)∧(RL w p q lo c D D).r w' w'':=fun w' h=>((h.1 H0.out).1.Og).mono fun e w'' ⟨e1,e2⟩=>⟨e1,by subst e2;exact(RL w p q lo c D D).refl _⟩
 have HPl:∀w',(RL w p q lo c D D).r wr w'→Calls Tryz.prog 62 #[.pointer (some ⟨p.a,0,none⟩)] w' fun e w''=>∃v,e=.returned v∧(RL w p q lo c D D).r w' w''∧(yu w p q lo c D D D.clean HX.out).p w'' v:=fun w' h=>((h.1 H0.out).1.Pb).mono fun e w'' ⟨a,cap,e1,e2,e3,e4⟩=>⟨_,e1,(RL w p q lo c D D).below e4,a,cap,rfl,e2,fun b off e=>by
  have:=(h.1 H0.out).2.1.lq
  have:=(h.1 H0.out).2.1.WU
  have:=e3 b off e
  omega⟩
 have HGv:∀w',(RL w p q lo c D D).r wr w'→Calls Tryz.prog 63 #[.pointer (some ⟨p.a,0,none⟩)] w' fun e w''=>∃v,e=.returned v∧(RL w p q lo c D D).r w' w''∧(yu w p q lo c D D D.grave HX.out).p w'' v:=fun w' h=>((h.1 H0.out).1.Lt HL.out.lq.2.2 HL.out.gl).mono fun e w'' ⟨a,cap,e1,e2,e3,e4⟩=>⟨_,e1,(RL w p q lo c D D).below e4,a,cap,rfl,e2,fun b off e=>by
  have:=(h.1 H0.out).2.1.lq
  have:=(h.1 H0.out).2.1.WU
  have:=e3 b off e
  omega⟩
 have HIn1:∀w',(RL w p q lo c D D).r wr w'→∀ad cap,Row w' .i64 ad (ints D.clean)→Calls Tryz.prog 24 #[.slice ad D.clean.length cap,.slice ca D.clean.length cc] w' fun e w''=>e=.returned (.bool true)∧(RL w p q lo c D D).r w' w'':=fun w' h ad cap hr=>(Cg _ _ _ _ _ _ (aC _) hr (HN.out w' h).2.2.2.2.1 (by have:=HL.out.cl;omega)).mono fun e w'' ⟨e1,e2⟩=>⟨e1,(RL w p q lo c D D).below e2.new⟩
 have HIn2:∀w',(RL w p q lo c D D).r wr w'→∀ad cap,Row w' .i64 ad (ints D.grave)→Calls Tryz.prog 24 #[.slice ad D.grave.length cap,.slice ga D.grave.length gc] w' fun e w''=>e=.returned (.bool true)∧(RL w p q lo c D D).r w' w'':=fun w' h ad cap hr=>(Cg _ _ _ _ _ _ (aC _) hr (HN.out w' h).2.2.2.2.2 (by have:=HL.out.gl;omega)).mono fun e w'' ⟨e1,e2⟩=>⟨e1,(RL w p q lo c D D).below e2.new⟩
 clear h hl
 go_enter Tryz.func14,Tryz.ntmps14
 go_wp2_with fail
 refine TX.fq [TX.au.is (.pointer (some ⟨p.a,0,none⟩)),TX.au.is (.pointer (some ⟨q,0,none⟩)),TX.au.is (.bool true),TX.au.is (.bool false),TX.au.is (.bool false),TX.au.is (.pointer (some ⟨p.a,0,none⟩)),yu w p q lo c D D D.clean HX.out,TX.au.is (.pointer (some ⟨q,0,none⟩)),TX.au.is (.pointer (some ⟨q,0,none⟩)),TX.au.is (.pointer (some ⟨q,0,none⟩)),TX.au.is (.pointer (some ⟨hb,0,none⟩)),TX.au.is (.pointer (some ⟨hb,0,none⟩)),TX.au.is (.pointer (some ⟨hb,2,none⟩)),TX.au.is (.slice ca D.clean.length cc),TX.au.is (.bool true),TX.au.is (.bool false),TX.au.is (.bool false),TX.au.is (.bool false),TX.au.is (.pointer (some ⟨p.a,0,none⟩)),yu w p q lo c D D D.grave HX.out,TX.au.is (.pointer (some ⟨q,0,none⟩)),TX.au.is (.pointer (some ⟨q,0,none⟩)),TX.au.is (.pointer (some ⟨q,12,none⟩)),TX.au.is (.slice ga D.grave.length gc),TX.au.is (.bool true),TX.au.is (.bool false),TX.au.is (.bool false),TX.au.is (.bool false),TX.au.is (.pointer (some ⟨p.a,0,none⟩)),TX.au.is (.int .i64 D.pending),TX.au.is (.pointer (some ⟨q,0,none⟩)),TX.au.is (.pointer (some ⟨q,0,none⟩)),TX.au.is (.pointer (some ⟨q,13,none⟩)),TX.au.is (.int .i64 D.pending),TX.au.is (.bool false),TX.au.is (.bool false)] (by kernel_rfl) (by kernel_rfl) rfl (by kernel_rfl) (fun ops K2 hops hK=> ?_)
 refine TX.ae (TX.ak rfl) (fun w' hC hd=>TX.aD _ (.inl rfl) rfl) (by go_frame;rfl) (by simp only[List.nil_append,List.cons_append];rfl) ?_
 refine TX.ae (TX.ak rfl) (fun w' hC hd=>TX.aD _ (.inl rfl) rfl) (by go_frame;rfl) (by simp only[List.nil_append,List.cons_append];rfl) ?_
 refine TX.ae (TX.ak rfl) (fun w' hC hd=>TX.fV 11 (.pointer (some ⟨p.a,0,none⟩)) 12 (.pointer (some ⟨q,0,none⟩)) rfl rfl (fun ρ hρ hf e0 e1=>TX.dP (f:=61) (by go_simp) (HLk w' hC))) (by go_frame;rfl) (by simp only[List.nil_append,List.cons_append];rfl) ?_
 refine TX.ae (TX.ak rfl) (fun w' hC hd=>TX.aA 13 (.bool true) rfl (fun ρ hρ hf e0=>TX.aB (by go_simp))) (by go_frame;rfl) (by simp only[List.nil_append,List.cons_append];rfl) ?_
 refine TX.ae (TX.ak rfl) (fun w' hC hd=>TX.aD _ (.inl rfl) rfl) (by go_frame;rfl) (by simp only[List.nil_append,List.cons_append];rfl) ?_
 refine TX.ae (TX.aF hops rfl rfl rfl rfl) (fun w' hC hd=>TX.aD _ (.inl rfl) rfl) (by go_frame;rfl) (by simp only[List.nil_append,List.cons_append];rfl) ?_
 refine sG (TX.aF hops rfl rfl rfl rfl) (fun w' hC hd=>TX.aA 16 (.pointer (some ⟨p.a,0,none⟩)) rfl (fun ρ hρ hf e0=>mV (f:=62) (by go_simp) (HPl w' hC))) (fun ad cap=>(by go_frame;rfl)) (fun ad=>(by simp only[List.nil_append,List.cons_append];rfl)) (fun ad1 cap1=> ?_)
 refine TX.ae (TX.aF hops rfl rfl rfl rfl) (fun w' hC hd=>TX.aD _ (.inl rfl) rfl) (by go_frame;rfl) (by simp only[List.nil_append,List.cons_append];rfl) ?_
 refine TX.ae (TX.aF hops rfl rfl rfl rfl) (fun w' hC hd=>TX.aA 18 (.pointer (some ⟨q,0,none⟩)) rfl (fun ρ hρ hf e0=>TX.aB (by go_simp))) (by go_frame;rfl) (by simp only[List.nil_append,List.cons_append];rfl) ?_
 refine TX.ae (TX.aF hops rfl rfl rfl rfl) (fun w' hC hd=>TX.aA 19 (.pointer (some ⟨q,0,none⟩)) rfl (fun ρ hρ hf e0=>TX.aB (by go_simp))) (by go_frame;rfl) (by simp only[List.nil_append,List.cons_append];rfl) ?_
 refine TX.ae (TX.aF hops rfl rfl rfl rfl) (fun w' hC hd=>TX.aA 20 (.pointer (some ⟨q,0,none⟩)) rfl (fun ρ hρ hf e0=>TX.aB (by have hc0:=cc0 w' hC;go_simp))) (by go_frame;rfl) (by simp only[List.nil_append,List.cons_append];rfl) ?_
 refine TX.ae (TX.aF hops rfl rfl rfl rfl) (fun w' hC hd=>TX.aA 21 (.pointer (some ⟨hb,0,none⟩)) rfl (fun ρ hρ hf e0=>TX.aB (by go_simp))) (by go_frame;rfl) (by simp only[List.nil_append,List.cons_append];rfl) ?_
 refine TX.ae (TX.aF hops rfl rfl rfl rfl) (fun w' hC hd=>TX.aA 22 (.pointer (some ⟨hb,0,none⟩)) rfl (fun ρ hρ hf e0=>TX.aB (by go_simp))) (by go_frame;rfl) (by simp only[List.nil_append,List.cons_append];rfl) ?_
 refine TX.ae (TX.aF hops rfl rfl rfl rfl) (fun w' hC hd=>TX.aA 23 (.pointer (some ⟨hb,2,none⟩)) rfl (fun ρ hρ hf e0=>TX.aB (by have hc0:=ch2 w' hC;go_simp))) (by go_frame;rfl) (by simp only[List.nil_append,List.cons_append];rfl) ?_
 refine TX.ae (TX.aF hops rfl rfl rfl rfl) (fun w' hC hd=>TX.fV 17 (.slice ad1 D.clean.length cap1) 24 (.slice ca D.clean.length cc) rfl rfl (fun ρ hρ hf e0 e1=>TX.dP (f:=24) (by go_simp) (HIn1 w' hC ad1 cap1 (hd 6 (by kernel_rfl)).1))) (by go_frame;rfl) (by simp only[List.nil_append,List.cons_append];rfl) ?_
 refine TX.ae (TX.aF hops rfl rfl rfl rfl) (fun w' hC hd=>TX.aA 25 (.bool true) rfl (fun ρ hρ hf e0=>TX.aB (by go_simp))) (by go_frame;rfl) (by simp only[List.nil_append,List.cons_append];rfl) ?_
 refine TX.ae (TX.ak rfl) (fun w' hC hd=>TX.gQ _ _ _ false rfl rfl rfl) (by go_frame;rfl) (by simp only[List.nil_append,List.cons_append];rfl) ?_
 refine TX.ae (TX.ak rfl) (fun w' hC hd=>TX.aD _ (.inl rfl) rfl) (by go_frame;rfl) (by simp only[List.nil_append,List.cons_append];rfl) ?_
 refine TX.ae (TX.aF hops rfl rfl rfl rfl) (fun w' hC hd=>TX.aD _ (.inl rfl) rfl) (by go_frame;rfl) (by simp only[List.nil_append,List.cons_append];rfl) ?_
 refine sG (TX.aF hops rfl rfl rfl rfl) (fun w' hC hd=>TX.aA 29 (.pointer (some ⟨p.a,0,none⟩)) rfl (fun ρ hρ hf e0=>mV (f:=63) (by go_simp) (HGv w' hC))) (fun ad cap=>(by go_frame;rfl)) (fun ad=>(by simp only[List.nil_append,List.cons_append];rfl)) (fun ad2 cap2=> ?_)
 refine TX.ae (TX.aF hops rfl rfl rfl rfl) (fun w' hC hd=>TX.aD _ (.inl rfl) rfl) (by go_frame;rfl) (by simp only[List.nil_append,List.cons_append];rfl) ?_
 refine TX.ae (TX.aF hops rfl rfl rfl rfl) (fun w' hC hd=>TX.aA 31 (.pointer (some ⟨q,0,none⟩)) rfl (fun ρ hρ hf e0=>TX.aB (by go_simp))) (by go_frame;rfl) (by simp only[List.nil_append,List.cons_append];rfl) ?_
 refine TX.ae (TX.aF hops rfl rfl rfl rfl) (fun w' hC hd=>TX.aA 32 (.pointer (some ⟨q,0,none⟩)) rfl (fun ρ hρ hf e0=>TX.aB (by go_simp))) (by go_frame;rfl) (by simp only[List.nil_append,List.cons_append];rfl) ?_
 refine TX.ae (TX.aF hops rfl rfl rfl rfl) (fun w' hC hd=>TX.aA 33 (.pointer (some ⟨q,12,none⟩)) rfl (fun ρ hρ hf e0=>TX.aB (by have hc0:=cc12 w' hC;go_simp))) (by go_frame;rfl) (by simp only[List.nil_append,List.cons_append];rfl) ?_
 refine TX.ae (TX.aF hops rfl rfl rfl rfl) (fun w' hC hd=>TX.fV 30 (.slice ad2 D.grave.length cap2) 34 (.slice ga D.grave.length gc) rfl rfl (fun ρ hρ hf e0 e1=>TX.dP (f:=24) (by go_simp) (HIn2 w' hC ad2 cap2 (hd 19 (by kernel_rfl)).1))) (by go_frame;rfl) (by simp only[List.nil_append,List.cons_append];rfl) ?_
 refine TX.ae (TX.aF hops rfl rfl rfl rfl) (fun w' hC hd=>TX.aA 35 (.bool true) rfl (fun ρ hρ hf e0=>TX.aB (by go_simp))) (by go_frame;rfl) (by simp only[List.nil_append,List.cons_append];rfl) ?_
 refine TX.ae (TX.ak rfl) (fun w' hC hd=>TX.gQ _ _ _ false rfl rfl rfl) (by go_frame;rfl) (by simp only[List.nil_append,List.cons_append];rfl) ?_
 refine TX.ae (TX.ak rfl) (fun w' hC hd=>TX.aD _ (.inl rfl) rfl) (by go_frame;rfl) (by simp only[List.nil_append,List.cons_append];rfl) ?_
 refine TX.ae (TX.aF hops rfl rfl rfl rfl) (fun w' hC hd=>TX.aD _ (.inl rfl) rfl) (by go_frame;rfl) (by simp only[List.nil_append,List.cons_append];rfl) ?_
 refine TX.ae (TX.aF hops rfl rfl rfl rfl) (fun w' hC hd=>TX.aA 39 (.pointer (some ⟨p.a,0,none⟩)) rfl (fun ρ hρ hf e0=>TX.dP (f:=64) (by go_simp) (HSe w' hC))) (by go_frame;rfl) (by simp only[List.nil_append,List.cons_append];rfl) ?_
 refine TX.ae (TX.aF hops rfl rfl rfl rfl) (fun w' hC hd=>TX.aD _ (.inl rfl) rfl) (by go_frame;rfl) (by simp only[List.nil_append,List.cons_append];rfl) ?_
 refine TX.ae (TX.aF hops rfl rfl rfl rfl) (fun w' hC hd=>TX.aA 41 (.pointer (some ⟨q,0,none⟩)) rfl (fun ρ hρ hf e0=>TX.aB (by go_simp))) (by go_frame;rfl) (by simp only[List.nil_append,List.cons_append];rfl) ?_
 refine TX.ae (TX.aF hops rfl rfl rfl rfl) (fun w' hC hd=>TX.aA 42 (.pointer (some ⟨q,0,none⟩)) rfl (fun ρ hρ hf e0=>TX.aB (by go_simp))) (by go_frame;rfl) (by simp only[List.nil_append,List.cons_append];rfl) ?_
 refine TX.ae (TX.aF hops rfl rfl rfl rfl) (fun w' hC hd=>TX.aA 43 (.pointer (some ⟨q,13,none⟩)) rfl (fun ρ hρ hf e0=>TX.aB (by have hc0:=cc13 w' hC;go_simp))) (by go_frame;rfl) (by simp only[List.nil_append,List.cons_append];rfl) ?_
 refine TX.ae (TX.aF hops rfl rfl rfl rfl) (fun w' hC hd=>TX.fV 40 (.int .i64 D.pending) 44 (.int .i64 D.pending) rfl rfl (fun ρ hρ hf e0 e1=>TX.aB (by have hb0:=(show((D.pending:Int)!=D.pending)=false by simp);go_simp))) (by go_frame;rfl) (by simp only[List.nil_append,List.cons_append];rfl) ?_
 refine TX.ae (TX.ak rfl) (fun w' hC hd=>TX.gQ _ _ _ false rfl rfl rfl) (by go_frame;rfl) (by simp only[List.nil_append,List.cons_append];rfl) ?_
 refine TX.kg (fun w2 hC hk=>hK _ _ ?_)
 have H2:=hid (hC.1 H0.out)
 have HT2:=hid hC.2
 clear hC hk hK cc0 ch2 cc12 cc13 HLk HSe HPl HGv HIn1 HIn2 HN
 have HIR:Hid (∀k,k<D.refs.length→∃t,t∈D.live∧nth D.refs k=(t.h:Int)+1∧D.find (nth D.refs k)=some t):=hid (fun k hk=>Mq HL.out.san hk)
 have HI64:Hid (∀k,k<D.refs.length→In64 (nth D.refs k)):=hid (fun k hk=>AR HL.out.lq.2.2 hk)
 have HLn:Hid (D.refs.length≤8000):=hid (Nat.le_trans (yh _) HL.out.lq.2.1)
 have HRf:=hid (H2.out.2.1.refs (by have:=HL.out.lq.2.1;omega))
 go_wp2_with fail
 refine HRf.out.mono ?_
 rintro e w3 ⟨ar,cr,rfl,hr,hf,hb⟩
 have H3:=hid (H2.out.later hb)
 have HT3:=hid (HT2.out.trans (Touch.of_below hb))
 have HR3:=hid hr
 clear hr hf hb HRf
 go_wp2_with fail
 go_loopw [50] (fun s wx=>∃k:Nat,k≤D.refs.length∧s=.int .i64 (k:Int)∧qA w p q lo c D D wx∧Touch (ah p) wr wx∧Row wx .i64 ar D.refs) (fun s _=>D.refs.length-(intOf s).toNat)
 case atStart=>exact⟨0,Nat.zero_le _,rfl,H3.out,HT3.out,HR3.out⟩
 case round=>
  obtain⟨k,hk,rfl,hS,hT,hR⟩:=hrel
  have H4:=hid hS
  have HT4:=hid hT
  have HR4:=hid hR
  clear hS hT hR
  by_cases hlt:k<D.refs.length
  ·obtain⟨bb,off,rfl,hbb,hc⟩:=HR4.out k hlt
   obtain⟨t,htl,hrt,hf⟩:=HIR.out k hlt
   have h64:=hid (HI64.out k hlt)
   have hk8:k<8000:=by have:=HLn.out;omega
   obtain⟨hz,hz1,hz2⟩:=HL.out.sz t htl
   have HLz:Hid (t.pt.length≤10000∧t.dt.length≤10000):=hid ⟨hz1,hz2⟩
   have HZ:=hid hz
   clear hz hz1 hz2 hrt htl
   generalize nth D.refs k=r at*
   have HF:=hid hf
   clear hf
   have nb:(D.cnt r !=D.cnt r)=false:=by simp
   go_wp2_with fail
   refine(QQ HL.out.san HF.out H4.out.1).mono ?_
   rintro e w5 ⟨a1,c1,a2,c2,rfl,r1,r2,hb⟩
   have hbx:=aT.new w5 #[.slice a1 t.pt.length c1,.slice a2 t.dt.length c2] 57
   have HB5:Hid (Below _ _ (w5.alloc (.cells #[.slice a1 t.pt.length c1,.slice a2 t.dt.length c2] 57))):=hid (below_step hb (below_new w5 _))
   have H5:=hid (H4.out.later HB5.out)
   have HR1:=hid (r1.later (below_new w5 (.cells #[.slice a1 t.pt.length c1,.slice a2 t.dt.length c2] 57)))
   have HR2:=hid (r2.later (below_new w5 (.cells #[.slice a1 t.pt.length c1,.slice a2 t.dt.length c2] 57)))
   have HBx:=hid hbx
   have hlt5:w5.heap.size<(w5.alloc (.cells #[.slice a1 t.pt.length c1,.slice a2 t.dt.length c2] 57)).heap.size:=by simp
   clear hb r1 r2 hbx
   generalize hn7:w5.heap.size=n7 at*
   obtain⟨hb,ch,hsee⟩:=H5.out.2.1.WO HF.out HZ.out
   have HSe:=hid hsee
   clear hsee hc
   go_wp2_with fail
   generalize hw6:w5.alloc (.cells #[.slice a1 t.pt.length c1,.slice a2 t.dt.length c2] 57)=w6 at*
   clear hw6
   refine HSe.out.mono ?_
   rintro e w7 ⟨b1,d1,b2,d2,rfl,s1,s2,hb7⟩
   have HB7:Hid (Below _ _ (w7.alloc (.cells #[.slice b1 t.pt.length d1,.slice b2 t.dt.length d2] 57))):=hid (below_step hb7 (below_new w7 _))
   have H7:=hid (H5.out.later HB7.out)
   have HS1:=hid (s1.later (below_new w7 (.cells #[.slice b1 t.pt.length d1,.slice b2 t.dt.length d2] 57)))
   have HS2:=hid (s2.later (below_new w7 (.cells #[.slice b1 t.pt.length d1,.slice b2 t.dt.length d2] 57)))
   have HQ1:=hid (HR1.out.later HB7.out)
   have HQ2:=hid (HR2.out.later HB7.out)
   have HBy:=hid (aT.new w7 #[.slice b1 t.pt.length d1,.slice b2 t.dt.length d2] 57)
   have HBz:=hid (HBx.out.later HB7.out)
   generalize hn9:w7.heap.size=n9 at*
   clear hb7 s1 s2 ch
   go_wp2_with fail
   generalize hw8:w7.alloc (.cells #[.slice b1 t.pt.length d1,.slice b2 t.dt.length d2] 57)=w8 at*
   clear hw8
   refine(H7.out.1.NE h64.out).mono ?_
   rintro e w9 ⟨rfl,hb9⟩
   have H9:=hid (H7.out.later hb9)
   have HB9:=hid hb9
   clear hb9
   go_wp2_with fail
   refine(H9.out.2.1.Tk r).mono ?_
   rintro e w10 ⟨rfl,rfl⟩
   have z70:=(HBz.out.later HB9.out).cell 0 rfl
   have z71:=(HBz.out.later HB9.out).cell 1 rfl
   have z90:=(HBy.out.later HB9.out).cell 0 rfl
   have z91:=(HBy.out.later HB9.out).cell 1 rfl
   go_wp2_with fail
   refine(Cg _ _ _ _ _ _ (lV D.w t) (HQ1.out.later HB9.out) (HS1.out.later HB9.out) HLz.out.1).mono ?_
   rintro e w11 ⟨rfl,hd⟩
   have HB11:=hid (below_step HB9.out hd.new)
   have H11:=hid (H9.out.later hd.new)
   clear hd z70 z71 z90 z91
   have z71:=(HBz.out.later HB11.out).cell 1 rfl
   have z91:=(HBy.out.later HB11.out).cell 1 rfl
   go_wp2_with fail
   refine(PL (Ho D.w t) _ _ _ _ _ _ (nY D.w t) (HQ2.out.later HB11.out) (HS2.out.later HB11.out) (by have:=HLz.out.2;unfold maxLen;omega)).mono ?_
   rintro e w12 ⟨rfl,hd⟩
   have H12:=hid (H11.out.later hd.new)
   have HBw:Hid (Below wr.heap.size wr w12):=hid (below_step (below_step (below_step HB5.out HB7.out) HB11.out) hd.new)
   clear hd z71 z91
   go_wp2_with fail
   go_roundw
   case rel=>exact⟨k+1,by omega,by go_num,H12.out,HT4.out.trans (Touch.of_below HBw.out),HR4.out.later HBw.out⟩
   case measure=>simp[intOf];omega
  ·go_wp2_with fail
   go_ret
   exact⟨rfl,H4.out,HT4.out⟩
end
end Go.Proofs.YtjmifnljckmimaaGreat.Pk
