/-
  Texts laid together: RefSee, GravLike, LinkPl, LinkPi, LinkAct, LinkAct2, LinkActP, LinkPlF.
-/
import Derived.Test.YtbhhfnlkpieebaaGreatRefG3Etc
import Derived.Test.YtbhhfnlkpieebaaGreatGravGrownEtc
import Derived.Test.YtbhhfnlkpieebaaGreatRefG7Etc
import Derived.Test.YtbhhfnlkpieebaaGreatLinkFnEtc
import Derived.Test.YtbhhfnlkpieebaaGreatTintActFEtc
import Derived.Deep.RegionHeld3
import Derived.Test.YtbhhfnlkpieebaaGreatRecsEtc
namespace Go.Proofs.YtbhhfnlkpieebaaGreat.Pk
open Lib (hid)
open Go.RowKit
set_option linter.unusedVariables false
set_option linter.unusedSimpArgs false
set_option maxRecDepth 100000
def Bv(v:Nat)(t:Th):List Int:=(List.range t.pt.length).map (fun i=>if dC v t i then 0 else nth t.pt i)
def CV(v:Nat)(t:Th):List Int:=(List.range t.dt.length).map (fun i=>if dC v t (t.pt.length+i) then 0 else nth t.dt i)
theorem jH(v:Nat)(t:Th):(Bv v t).length=t.pt.length:=by simp[Bv]
theorem lC(v:Nat)(t:Th):(CV v t).length=t.dt.length:=by simp[CV]
theorem Ms{v:Nat}{t:Th}{i:Nat}(h:i<t.pt.length):nth (Bv v t) i=if dC v t i then 0 else nth t.pt i:=by
 show(Bv v t).getD i 0=_
 unfold Bv
 simp[List.getD,h]
theorem Lt{v:Nat}{t:Th}{i:Nat}(h:i<t.dt.length):nth (CV v t) i=if dC v t (t.pt.length+i) then 0 else nth t.dt i:=by
 show(CV v t).getD i 0=_
 unfold CV
 simp[List.getD,h]
section
variable {w w':World} {lo:Nat} {lab:Nat→Nat} {a:WA} {D:Wd} {i:Nat} {t t':Th} {x:TA} {n v b:Nat} {c:Cf} {zs:List Int}
def Li(v:Nat)(t:Th)(w:World)(e:Ending)(w':World):Prop:=
 ∃a1 c1 a2 c2,e=.returned (.tuple #[.agg #[.slice a1 t.pt.length c1,.slice a2 t.dt.length c2],.bool true])∧Row w' .i64 a1 (Bv v t)∧Row w' .u32 a2 (CV v t)∧Below w.heap.size w w'
theorem rT(hw:16≤c.W){k:Nat}(hk:k<t.pt.length+t.dt.length)(hb:¬t.pt.length+t.dt.length≤c.W-8→k/(c.W-1)<t.lv.length):(aF c t.ob k).isSome= !dC c.W t k:=by
 have e:t.ob.f=t.pt.length+t.dt.length:=rfl
 unfold aF aP dC
 rw[e]
 by_cases h:t.pt.length+t.dt.length≤c.W-8
 ·simp[h]
 ·have hj:=hb h
  simp only[h,if_false,decide_false,Bool.not_false,Bool.true_and]
  have hl:t.ob.lv[k/(c.W-1)]? =some ((nth t.lv (k/(c.W-1))+1).toNat):=by
   show(t.lv.map _)[_]? =_
   rw[List.getElem?_map]
   unfold nth
   simp[List.getD,hj]
  rw[hl]
  by_cases hn:nth t.lv (k/(c.W-1))<0
  ·rw[show(nth t.lv (k/(c.W-1))+1).toNat=0 by omega]
   simp[hn]
  ·obtain⟨m,hm⟩:∃m,(nth t.lv (k/(c.W-1))+1).toNat=m+1:=⟨(nth t.lv (k/(c.W-1))).toNat,by omega⟩
   rw[hm]
   simp[hn]
theorem ak.Lg(R:ak c zs D)(hm:c.May)(S:San D)(htl:t∈D.live):CS D.w t:=by
 have ho:=R.heap.obs t.ob (R.bg htl)
 have hw:=hm.w
 have e:t.ob.f=t.pt.length+t.dt.length:=rfl
 have h1:=ho.size
 rw[e] at h1
 rw[R.w]
 refine⟨by omega,by omega,h1,fun hb=> ?_⟩
 have g:=(S.ok t htl).geo.big (by rw[R.w];exact hb)
 rw[R.w] at g
 exact g.2
theorem PG(R:ak c zs D)(hm:c.May)(S:San D)(htl:t∈D.live):ptrL c zs t.ob=Bv D.w t:=by
 have z:=R.Lg hm S htl
 have hw:=R.w
 rw[hw] at z ⊢
 refine List.map_congr_left (fun k hk=> ?_)
 have h2:k<t.pt.length:=List.mem_range.1 hk
 have h3:=rT (c:=c) (t:=t) (k:=k) z.w0 (by omega) (fun hb=>z.leaf hb (by omega))
 unfold fldV
 cases ha:aF c t.ob k with
 |some q=>
  rw[ha] at h3
  have h4:dC c.W t k=false:=by simpa using h3
  rw[if_neg (by rw[h4];decide)]
  show nth zs q=_
  rw[R.tu t htl k q (by unfold Th.ob Ob.f;simp;omega) ha]
  unfold Th.tu
  rw[if_pos h2]
 |none=>
  rw[ha] at h3
  have h4:dC c.W t k=true:=by simpa using h3
  rw[if_pos h4]
theorem Pm(R:ak c zs D)(hm:c.May)(S:San D)(htl:t∈D.live):dataL c zs t.ob=CV D.w t:=by
 have z:=R.Lg hm S htl
 have hw:=R.w
 rw[hw] at z ⊢
 refine List.map_congr_left (fun k hk=> ?_)
 have h2:k<t.dt.length:=List.mem_range.1 hk
 have e:t.ob.np+k=t.pt.length+k:=rfl
 rw[e]
 have h3:=rT (c:=c) (t:=t) (k:=t.pt.length+k) z.w0 (by omega) (fun hb=>z.leaf hb (by omega))
 unfold fldV
 cases ha:aF c t.ob (t.pt.length+k) with
 |some q=>
  rw[ha] at h3
  have h4:dC c.W t (t.pt.length+k)=false:=by simpa using h3
  rw[if_neg (by rw[h4];decide)]
  show nth zs q=_
  rw[R.tu t htl (t.pt.length+k) q (by unfold Th.ob Ob.f;simp;omega) ha]
  unfold Th.tu
  rw[if_neg (by omega),Nat.add_sub_cancel_left]
 |none=>
  rw[ha] at h3
  have h4:dC c.W t (t.pt.length+k)=true:=by simpa using h3
  rw[if_pos h4]
theorem Lx{wr:World}{p:Pl}{r:Int}(S:San D)(hf:D.find r=some t)(h:RSt w p c D wr):Calls Tryz.prog 84 #[.pointer (some ⟨p.a,0,none⟩),.int .i64 r] wr (Li D.w t wr):=by
 refine h.looks (f:=84) (args:=[.int .i64 r]) (Q:=Li D.w t) (fun zs hz R=> ?_)
 obtain⟨htl,e⟩:=find_live hf
 have hl:=ky.see_yes c zs D.clean D.obs t.ob hz R.heap (R.bg htl)
 have e':((t.ob.h:Nat):Int)+1=r:=e
 rw[e'] at hl
 have hp:=PG R hz.may S htl
 have hq:=Pm R hz.may S htl
 intro p m w hG
 refine(hl p m w hG).mono ?_
 rintro e w' ⟨a1,c1,a2,c2,rfl,r1,r2,f1,f2,f12,hb,e1,e2⟩
 rw[hp] at r1
 rw[hq] at r2
 exact⟨a1,c1,a2,c2,rfl,r1.row,r2.row,hb⟩
theorem Pv:(Tryz.prog.info? 116).map (fun i=>(i.zero,i.size,i.bytes))=some (some (.int .u32 0),1,4):=by kernel_rfl
def Na(w:World)(v1:Value)(k:Nat)(l:List Int)(wr:World):Prop:=
 wr.ownsRow (w.heap.size+2) 3 1 v1 k (l.map (Value.int .i64))∧Blk wr (w.heap.size+1) #[v1,.slice none 0 0] 95∧Blk wr w.heap.size #[.slice none 0 0,.slice none 0 0] 95∧Below w.heap.size w wr
def Nb(w w8:World)(v1 v2:Value)(k:Nat)(l:List Int)(wr:World):Prop:=
 wr.ownsRow w8.heap.size 116 1 v2 k (l.map (Value.int .u32))∧Blk wr (w.heap.size+1) #[v1,v2] 95∧Blk wr w.heap.size #[.slice none 0 0,.slice none 0 0] 95∧Touch (fun b=>b=w.heap.size+1) w8 wr
theorem Na.push{w w1:World}{v1 v':Value}{k:Nat}{l:List Int}{y:Int}{wr:World}(h:Na w v1 k l wr)(hk:l.length=k)(ho:w1.ownsRow (w.heap.size+2) 3 1 v' (k+1) ((l++[y]).map (Value.int .i64)))(hg:(wr.alloc (.cells #[.int .i64 y] 3)).grownBy w1 v1.ownBlock):
  Na w v' (k+1) (l++[y]) (w1.setCell ⟨w.heap.size+1,0,none⟩ v')∧w1.cell? ⟨w.heap.size+1,0,none⟩=some v1∧w1.frozen? ⟨w.heap.size+1,0,none⟩=false:=by
 obtain⟨h1,h2,h3,h4⟩:=h
 have hn:∀g,v1.ownBlock=some g→w.heap.size+2≤g:=owns_block h1
 have T:Touch (fun q=>w.heap.size+2≤q) wr w1:=(Touch.of_below (below_new wr _)).trans ((bE hg).mono (fun q _ e=>hn q e))
 have hB:=h2.touch T (by omega)
 have hZ:=h3.touch T (by omega)
 refine⟨⟨?_,hB.put 0 v' rfl,hZ.other (by show w.heap.size+1≠w.heap.size;omega) _,?_⟩,hB.cell 0 rfl,hB.free 0⟩
 ·exact aY ho ((Touch.refl (fun q=>q=w.heap.size+1) w1).setCell (p:=⟨w.heap.size+1,0,none⟩) (fun _=>rfl) v') (fun g hgg e=>by have:=owns_block ho g hgg;omega)
 ·exact(h4.trans (T.below (fun q hq=>by omega) h4.size)).setCell (by show w.heap.size≤w.heap.size+1;omega) _
theorem Nb.push{w w8 w1:World}{v1 v2 v':Value}{k:Nat}{l:List Int}{y:Int}{wr:World}(h:Nb w w8 v1 v2 k l wr)(hs:w.heap.size+2≤w8.heap.size)(ho:w1.ownsRow w8.heap.size 116 1 v' (k+1) ((l++[y]).map (Value.int .u32)))(hg:(wr.alloc (.cells #[.int .u32 y] 116)).grownBy w1 v2.ownBlock):
  Nb w w8 v1 v' (k+1) (l++[y]) (w1.setCell ⟨w.heap.size+1,1,none⟩ v')∧w1.cell? ⟨w.heap.size+1,1,none⟩=some v2∧w1.frozen? ⟨w.heap.size+1,1,none⟩=false:=by
 obtain⟨h1,h2,h3,h4⟩:=h
 have hn:∀g,v2.ownBlock=some g→w8.heap.size≤g:=owns_block h1
 have T:Touch (fun q=>w8.heap.size≤q) wr w1:=(Touch.of_below (below_new wr _)).trans ((bE hg).mono (fun q _ e=>hn q e))
 have hB:=h2.touch T (by omega)
 have hZ:=h3.touch T (by omega)
 have T8:Touch (fun q=>q=w.heap.size+1) w8 w1:=by
  have:=h4.size
  refine⟨T.os.trans h4.os,T.tape.trans h4.tape,T.output.trans h4.output,Nat.le_trans h4.size T.size,fun q hq hx=> ?_⟩
  exact(T.block q (by omega) (by omega)).trans (h4.block q hq hx)
 refine⟨⟨?_,hB.put 1 v' rfl,hZ.other (by show w.heap.size+1≠w.heap.size;omega) _,T8.setCell (p:=⟨w.heap.size+1,1,none⟩) (fun _=>rfl) v'⟩,hB.cell 1 rfl,hB.free 1⟩
 exact aY ho ((Touch.refl (fun q=>q=w.heap.size+1) w1).setCell (p:=⟨w.heap.size+1,1,none⟩) (fun _=>rfl) v') (fun g hgg e=>by have:=owns_block ho g hgg;omega)
theorem Na.df{w:World}{v1:Value}{k:Nat}{l:List Int}{wr w2:World}(h:Na w v1 k l wr)(d:bU wr w2):Na w v1 k l w2:=by
 obtain⟨m,rfl⟩:=d
 exact⟨h.1,h.2.1,h.2.2.1,h.2.2.2.trans (bU.below ⟨m,rfl⟩ _)⟩
theorem Nb.df{w w8:World}{v1 v2:Value}{k:Nat}{l:List Int}{wr w2:World}(h:Nb w w8 v1 v2 k l wr)(d:bU wr w2):Nb w w8 v1 v2 k l w2:=by
 obtain⟨m,rfl⟩:=d
 exact⟨h.1,h.2.1,h.2.2.1,h.2.2.2.drewN m⟩
theorem oK(w:World)(y:Int):∀j z,[Value.int .u32 y][j]? =some z→(w.alloc (.cells #[.int .u32 y] 116)).cell? ((⟨w.heap.size,0,none⟩:Addr).add j)=some z:=qf w (.int .u32 y) 116
set_option maxHeartbeats 4000000 in
theorem Pt(h:ah w lo lab a D){r:Int}(hf:D.find r=some t)(z:CS D.w t):
  Calls Tryz.prog 85 #[.pointer (some ⟨a.hb,0,none⟩),.int .i64 r] w (Li D.w t w):=by
 obtain⟨i0,hinf,hz0,hz1,hz2⟩:=info_parts infoInt
 obtain⟨j0,jinf,jz0,jz1,jz2⟩:=info_parts Pv
 obtain⟨i,x,hi,ht,hx⟩:=h.found hf
 have HC:=hid (fun w' (h':ah w' lo lab a D)=>aK h' hi hx)
 have HS:=hid (fun w' (h':ah w' lo lab a D) k (hk:k<t.pt.length+t.dt.length)=>Jr h' ht hx z hk)
 have HTA:=hid (fun w' (h':ah w' lo lab a D)=>h'.h.th i t x ht hx)
 have hsm:=z.small
 have H:=hid h
 clear h hf hi ht hx z
 go_enter Tryz.func85,Tryz.ntmps85
 go_wp2_with fail
 have HB0:=hid (below_new w (.cells #[.slice none 0 0,.slice none 0 0] 95))
 refine(HC.out _ (H.out.later HB0.out)).mono ?_
 rintro e w1 ⟨rfl,rfl⟩
 go_wp2_with fail
 have HG0:Hid (Na w (.slice none 0 0) 0 [] ((w.alloc (.cells #[.slice none 0 0,.slice none 0 0] 95)).alloc (.cells #[.slice none 0 0,.slice none 0 0] 95))):=hid (by
  have hb:=Blk.new (w.alloc (.cells #[.slice none 0 0,.slice none 0 0] 95)) #[.slice none 0 0,.slice none 0 0] 95
  have hs:(w.alloc (.cells #[.slice none 0 0,.slice none 0 0] 95)).heap.size=w.heap.size+1:=by simp
  rw[hs] at hb
  exact⟨World.ownsRow_nil _ _ _ _,hb,(Blk.new w _ _).alloc _,below_step (below_new w _) (below_new _ _)⟩)
 go_loopw [8] (fun s wr=>∃k:Nat,k≤t.pt.length∧s=.int .i64 (k:Int)∧∃v1,Na w v1 k ((Bv D.w t).take k) wr) (fun s _=>t.pt.length-(intOf s).toNat)
 case atStart=>exact⟨0,Nat.zero_le _,rfl,_,HG0.out⟩
 case round=>
  obtain⟨k,hk,rfl,v1,hG⟩:=hrel
  have HGk:=hid hG
  have HW:=hid (H.out.later hG.2.2.2)
  have hT:=HTA.out _ HW.out
  have d2:=hT.c2
  by_cases hlt:k<t.pt.length
  ·obtain⟨gp,hpa,hgp,gpc,_⟩:=hT.pt.at hlt
   rw[hpa] at d2
   have HSk:=HS.out _ HW.out k (by omega)
   have HL:Hid ((Bv D.w t).take (k+1)=(Bv D.w t).take k++[if dC D.w t k then 0 else nth t.pt k]):=hid (by rw[gD (by rw[jH];exact hlt),Ms hlt])
   have HLn:Hid (((Bv D.w t).take k).length=k):=hid (by rw[List.length_take,jH];omega)
   cases hs:dC D.w t k with
   |true=>
    rw[hs] at HSk HL
    have HSk:=hid HSk
    clear hG hT hpa hs
    go_wp2_with fail
    refine HSk.out.mono ?_
    rintro e w2 ⟨rfl,hd⟩
    have HGm:=hid (HGk.out.df hd)
    clear hd
    have hown:=HGm.out.1
    have hsz:=HGm.out.2.1.lt
    have c7:=HGm.out.2.1.cell 0 rfl
    go_wp2_with (at_builtin;refine wpList_append_own _ rfl _ _ 39 rfl (w.heap.size+2) 3 i0 (.int .i64 0) 1 8 Tryz.underlying39 hinf hz0 hz1 hz2 rfl (by decide) _ _ _ rfl (hown.alloc _) ⟨w2.heap.size,0,none⟩ 1 1 [.int .i64 0] rfl rfl ?c1 ?c2 ?c3 ?c4 ?c5 ?c6)
    case c1=>exact cell_one_new w2 _ _
    case c2=>intro u hu;simp at hu;subst hu;rfl
    case c3=>unfold maxLen;omega
    case c4=>omega
    case c5=>simp;omega
    case c6=>
     intro v' w6 hown' hgrow _
     obtain⟨⟨o',cap',rfl⟩,_⟩:=gz hown'
     have hp:=HGm.out.push HLn.out (y:=0) (by simpa using hown') hgrow
     have HP:=hid hp.1
     have q7:=hp.2.1
     have g7:=hp.2.2
     clear hown' hgrow hown hsz hp c7
     go_wp2_with fail
     go_roundw
     case rel=>exact⟨k+1,by omega,by go_num,_,by rw[HL.out];exact HP.out⟩
     case measure=>simp[intOf];omega
   |false=>
    rw[hs] at HSk HL
    have HSk:=hid HSk
    clear hG hT hpa hs
    go_wp2_with fail
    refine HSk.out.mono ?_
    rintro e w2 ⟨rfl,hd⟩
    have HGm:=hid (HGk.out.df hd)
    clear hd
    have hown:=HGm.out.1
    have hsz:=HGm.out.2.1.lt
    have c7:=HGm.out.2.1.cell 0 rfl
    go_wp2_with (at_builtin;refine wpList_append_own _ rfl _ _ 39 rfl (w.heap.size+2) 3 i0 (.int .i64 0) 1 8 Tryz.underlying39 hinf hz0 hz1 hz2 rfl (by decide) _ _ _ rfl (hown.alloc _) ⟨w2.heap.size,0,none⟩ 1 1 [.int .i64 (nth t.pt k)] rfl rfl ?c1 ?c2 ?c3 ?c4 ?c5 ?c6)
    case c1=>exact cell_one_new w2 _ _
    case c2=>intro u hu;simp at hu;subst hu;rfl
    case c3=>unfold maxLen;omega
    case c4=>omega
    case c5=>simp;omega
    case c6=>
     intro v' w6 hown' hgrow _
     obtain⟨⟨o',cap',rfl⟩,_⟩:=gz hown'
     have hp:=HGm.out.push HLn.out (y:=(nth t.pt k)) (by simpa using hown') hgrow
     have HP:=hid hp.1
     have q7:=hp.2.1
     have g7:=hp.2.2
     clear hown' hgrow hown hsz hp c7
     go_wp2_with fail
     go_roundw
     case rel=>exact⟨k+1,by omega,by go_num,_,by rw[HL.out];exact HP.out⟩
     case measure=>simp[intOf];omega
  ·obtain rfl:k=t.pt.length:=by omega
   generalize wr=wr8 at*
   have HS8:Hid (w.heap.size+2≤wr8.heap.size):=hid (by have:=HGk.out.2.1.lt;omega)
   have HQ0:Hid (Nb w wr8 v1 (.slice none 0 0) 0 [] wr8):=hid ⟨World.ownsRow_nil _ _ _ _,HGk.out.2.1,HGk.out.2.2.1,Touch.refl _ _⟩
   clear hG hT
   go_wp2_with fail
   go_loopw [10] (fun s wr=>∃k:Nat,k≤t.dt.length∧s=.int .i64 (k:Int)∧∃v2,Nb w wr8 v1 v2 k ((CV D.w t).take k) wr) (fun s _=>t.dt.length-(intOf s).toNat)
   case atStart=>exact⟨0,Nat.zero_le _,rfl,_,HQ0.out⟩
   case round=>
    clear hlt d2
    obtain⟨k,hk,rfl,v2,hG⟩:=hrel
    have HGq:=hid HGk.out
    clear HGk
    have HGk:=hid hG
    have HBw:Hid (Below w.heap.size w wr):=hid (HGq.out.2.2.2.trans (hG.2.2.2.below (fun q hq=>by omega) HGq.out.2.2.2.size))
    have HW2:=hid (H.out.later HBw.out)
    have hT:=HTA.out _ HW2.out
    have d2:=hT.c2
    have d3:=hT.c3
    by_cases hlt:k<t.dt.length
    ·obtain⟨gp,hpa,hgp,gpc,_⟩:=hT.dt.at hlt
     rw[hpa] at d3
     have HSk:=HS.out _ HW2.out (t.pt.length+k) (by omega)
     have hwr:IntKind.i64.wrap ((t.pt.length:Int)+(k:Int))=((t.pt.length+k:Nat):Int):=by rw[Int.natCast_add];exact IntWalk.i64_in _ (by omega)
     have HL:Hid ((CV D.w t).take (k+1)=(CV D.w t).take k++[if dC D.w t (t.pt.length+k) then 0 else nth t.dt k]):=hid (by rw[gD (by rw[lC];exact hlt),Lt hlt])
     cases hs:dC D.w t (t.pt.length+k) with
     |true=>
      rw[hs] at HSk HL
      have HSk:=hid HSk
      clear hG hT hpa hs
      go_wp2_with fail
      refine HSk.out.mono ?_
      rintro e w2 ⟨rfl,hd⟩
      have HGm:=hid (HGk.out.df hd)
      clear hd
      have hown:=HGm.out.1
      have hsz:=HGm.out.2.2.2.size
      have c7:=HGm.out.2.1.cell 1 rfl
      go_wp2_with (at_builtin;refine wpList_append_own _ rfl _ _ 82 rfl wr8.heap.size 116 j0 (.int .u32 0) 1 4 Tryz.underlying82 jinf jz0 jz1 jz2 rfl (by decide) _ _ _ rfl (hown.alloc _) ⟨w2.heap.size,0,none⟩ 1 1 [.int .u32 0] rfl rfl ?c1 ?c2 ?c3 ?c4 ?c5 ?c6)
      case c1=>exact oK w2 _
      case c2=>intro u hu;simp at hu;subst hu;rfl
      case c3=>unfold maxLen;omega
      case c4=>omega
      case c5=>simp;omega
      case c6=>
       intro v' w6 hown' hgrow _
       obtain⟨⟨o',cap',rfl⟩,_⟩:=gz hown'
       have hp:=HGm.out.push HS8.out (y:=0) (by simpa using hown') hgrow
       have HP:=hid hp.1
       have q7:=hp.2.1
       have g7:=hp.2.2
       clear hown' hgrow hown hsz hp c7
       go_wp2_with fail
       go_roundw
       case rel=>exact⟨k+1,by omega,by go_num,_,by rw[HL.out];exact HP.out⟩
       case measure=>simp[intOf];omega
     |false=>
      rw[hs] at HSk HL
      have HSk:=hid HSk
      clear hG hT hpa hs
      go_wp2_with fail
      refine HSk.out.mono ?_
      rintro e w2 ⟨rfl,hd⟩
      have HGm:=hid (HGk.out.df hd)
      clear hd
      have hown:=HGm.out.1
      have hsz:=HGm.out.2.2.2.size
      have c7:=HGm.out.2.1.cell 1 rfl
      go_wp2_with (at_builtin;refine wpList_append_own _ rfl _ _ 82 rfl wr8.heap.size 116 j0 (.int .u32 0) 1 4 Tryz.underlying82 jinf jz0 jz1 jz2 rfl (by decide) _ _ _ rfl (hown.alloc _) ⟨w2.heap.size,0,none⟩ 1 1 [.int .u32 (nth t.dt k)] rfl rfl ?c1 ?c2 ?c3 ?c4 ?c5 ?c6)
      case c1=>exact oK w2 _
      case c2=>intro u hu;simp at hu;subst hu;rfl
      case c3=>unfold maxLen;omega
      case c4=>omega
      case c5=>simp;omega
      case c6=>
       intro v' w6 hown' hgrow _
       obtain⟨⟨o',cap',rfl⟩,_⟩:=gz hown'
       have hp:=HGm.out.push HS8.out (y:=(nth t.dt k)) (by simpa using hown') hgrow
       have HP:=hid hp.1
       have q7:=hp.2.1
       have g7:=hp.2.2
       clear hown' hgrow hown hsz hp c7
       go_wp2_with fail
       go_roundw
       case rel=>exact⟨k+1,by omega,by go_num,_,by rw[HL.out];exact HP.out⟩
       case measure=>simp[intOf];omega
    ·obtain rfl:k=t.dt.length:=by omega
     have h1:=HGq.out.1
     have h2:=HGk.out.1
     have e1:(Bv D.w t).take t.pt.length=Bv D.w t:=List.take_of_length_le (by rw[jH];exact Nat.le_refl _)
     have e2:(CV D.w t).take t.dt.length=CV D.w t:=List.take_of_length_le (by rw[lC];exact Nat.le_refl _)
     rw[e1] at h1
     rw[e2] at h2
     have f1:∀g,v1.ownBlock=some g→w.heap.size+2≤g:=owns_block h1
     have l1:=jH D.w t
     have l2:=lC D.w t
     obtain⟨a1,c1,ev1,r1⟩:∃a1 c1,v1=.slice a1 t.pt.length c1∧Row wr8 .i64 a1 (Bv D.w t):=by
      have:=Row.of_owns (v:=v1) (zs:=Bv D.w t) (by rw[l1];exact h1)
      rw[l1] at this
      exact this
     obtain⟨a2,c2,ev2,r2⟩:∃a2 c2,v2=.slice a2 t.dt.length c2∧Row wr .u32 a2 (CV D.w t):=by
      have:=Row.of_owns (v:=v2) (zs:=CV D.w t) (by rw[l2];exact h2)
      rw[l2] at this
      exact this
     subst ev1 ev2
     have HR1:Hid (Row wr .i64 a1 (Bv D.w t)):=hid (r1.touch HGk.out.2.2.2 (fun _ b off e hx=>by
      subst e
      have hx:b=w.heap.size+1:=hx
      have hf:=f1 b rfl
      omega))
     have HR2:=hid r2
     have z0:=HGk.out.2.1.cell 0 rfl
     have z1:=HGk.out.2.1.cell 1 rfl
     have y0:=HGk.out.2.2.1.cell 0 rfl
     have y1:=HGk.out.2.2.1.cell 1 rfl
     have g0:=HGk.out.2.2.1.free 0
     have g1:=HGk.out.2.2.1.free 1
     have hlx:=HGk.out.2.2.1.lt
     have HT2:Hid (Touch (fun q=>q=w.heap.size) wr ((wr.setCell ⟨w.heap.size,0,none⟩ (.slice a1 t.pt.length c1)).setCell ⟨w.heap.size,1,none⟩ (.slice a2 t.dt.length c2))):=hid (((Touch.refl (fun q=>q=w.heap.size) wr).setCell (p:=⟨w.heap.size,0,none⟩) (fun _=>rfl) _).setCell (p:=⟨w.heap.size,1,none⟩) (fun _=>rfl) _)
     have HF1:Hid (RowOut (fun q=>q=w.heap.size) a1 (Bv D.w t)):=hid (fun _ b off e hx=>by
      subst e
      have hx:b=w.heap.size:=hx
      have hf:=f1 b rfl
      omega)
     have HF2:Hid (RowOut (fun q=>q=w.heap.size) a2 (CV D.w t)):=hid (fun _ b off e hx=>by
      subst e
      have hx:b=w.heap.size:=hx
      have hf:=owns_block h2 b rfl
      have:=HS8.out
      omega)
     clear hG hT h1 h2 e1 e2 f1 l1 l2 r1 r2
     go_wp2_with fail
     exact bodyPost_ret (v:=.tuple #[.agg #[.slice a1 t.pt.length c1,.slice a2 t.dt.length c2],.bool true]) (by simp[results,Tryz.results85,go_sem,y0,y1,hlx]) rfl ⟨a1,c1,a2,c2,rfl,HR1.out.touch HT2.out HF1.out,HR2.out.touch HT2.out HF2.out,HBw.out.trans (HT2.out.below (fun q hq=>by omega) HBw.out.size)⟩
end
section
variable {w wr w':World} {p:Pl} {q lo:Nat} {c:Cf} {D D2:Wd} {t:Th}
theorem aV.QG(h:aV wr lo q D){r:Int}(hf:D.find r=some t)(z:CS D.w t):∃hb,wr.cell? ⟨q,0,none⟩=some (.pointer (some ⟨hb,0,none⟩))∧Calls Tryz.prog 85 #[.pointer (some ⟨hb,0,none⟩),.int .i64 r] wr (Li D.w t wr):=by
 obtain⟨lab,a,rfl,k⟩:=h
 exact⟨a.hb,k.c0,Pt k hf z⟩
theorem aV.Ns(h:aV wr lo q D)(r:Int):Calls Tryz.prog 87 #[.pointer (some ⟨q,0,none⟩),.int .i64 r] wr fun e w'=>e=.returned (.int .i64 (D.cnt r))∧wr=w':=by
 obtain⟨lab,a,rfl,k⟩:=h
 exact gX k r
theorem aV.QO(h:aV wr lo q D):q<wr.heap.size:=by
 obtain⟨lab,a,rfl,k⟩:=h
 exact k.wb.lt
structure Pg (D:Wd):Prop where
 lq:LQ D
 gl:D.grave.length≤8000
 cl:D.clean.length≤8000
 san:San D
 sz:∀t,t∈D.live→CS D.w t∧t.pt.length≤10000∧t.dt.length≤10000
theorem GQ{k:Nat}(S:San D)(hk:k<D.refs.length):∃t,t∈D.live∧nth D.refs k=(t.h:Int)+1∧D.find (nth D.refs k)=some t:=by
 have e:nth D.refs k=D.refs[k]:=by unfold nth;simp[List.getD,hk]
 have hm:D.refs[k]∈fO D.ts:=List.getElem_mem hk
 unfold fO at hm
 obtain⟨t,ht,hx⟩:=List.mem_flatMap.1 hm
 cases he:t.ended with
 |true=>rw[he] at hx;simp at hx
 |false=>
  rw[he] at hx
  simp at hx
  have htl:t∈D.live:=mem_live.2 ⟨ht,he⟩
  exact⟨t,htl,by rw[e];exact hx,by rw[e,hx];exact S.findIt htl⟩
set_option maxHeartbeats 4000000 in
theorem iE(h:kY w p q lo c D D wr)(hl:Pg D):
  Calls Tryz.prog 17 #[.pointer (some ⟨p.a,0,none⟩),.pointer (some ⟨q,0,none⟩)] wr fun e w'=>e=.returned (.bool true)∧kY w p q lo c D D w'∧Touch (inG p) wr w':=by
 have H0:=hid h
 have HL:=hid hl
 have HX:Hid (∀b,lo≤b→¬inG p b):=hid (fun b hb hx=>h.2.2.1 b hb (Or.inr hx))
 obtain⟨hb,ca,cc,ga,gc,HN⟩:∃hb ca cc ga gc,Hid (∀w',(RL w p q lo c D D).r wr w'→w'.cell? ⟨q,0,none⟩=some (.pointer (some ⟨hb,0,none⟩))∧w'.cell? ⟨hb,2,none⟩=some (.slice ca D.clean.length cc)∧w'.cell? ⟨q,12,none⟩=some (.slice ga D.grave.length gc)∧w'.cell? ⟨q,13,none⟩=some (.int .i64 D.pending)∧Row w' .i64 ca (ints D.clean)∧Row w' .i64 ga (ints D.grave)):=by
  obtain⟨lab,a,rfl,k⟩:=h.2.1
  refine⟨a.hb,a.ca,a.cc,a.ga,a.gc,hid (fun w' h=> ?_)⟩
  have k':=k.touch h.2 (fun b hb _ hx=>HX.out b hb hx)
  exact⟨k'.c0,k'.h.c2,k'.c12,k'.c13,k'.h.crow,k'.gv⟩
 have cc0:=fun w' (h:(RL w p q lo c D D).r wr w')=>(HN.out w' h).1
 have ch2:=fun w' (h:(RL w p q lo c D D).r wr w')=>(HN.out w' h).2.1
 have cc12:=fun w' (h:(RL w p q lo c D D).r wr w')=>(HN.out w' h).2.2.1
 have cc13:=fun w' (h:(RL w p q lo c D D).r wr w')=>(HN.out w' h).2.2.2.1
 have HLk:∀w',(RL w p q lo c D D).r wr w'→Calls Tryz.prog 80 #[.pointer (some ⟨p.a,0,none⟩),.pointer (some ⟨q,0,none⟩)] w' fun e w''=>e=.returned (.bool true)∧(RL w p q lo c D D).r w' w'':=fun w' h=>(zw MF tintFns (h.1 H0.out) HL.out.lq).mono fun e w'' ⟨e1,e2,e3⟩=>⟨e1,fun _=>e2,e3⟩
 have HSe:∀w',(RL w p q lo c D D).r wr w'→Calls Tryz.prog 54 #[.pointer (some ⟨p.a,0,none⟩)] w' fun e w''=>e=.returned (.int .i64 D.pending)∧(RL w p q lo c D D).r w' w'':=fun w' h=>((h.1 H0.out).1.Jq).mono fun e w'' ⟨e1,e2⟩=>⟨e1,by subst e2;exact(RL w p q lo c D D).refl _⟩
 have HPl:∀w',(RL w p q lo c D D).r wr w'→Calls Tryz.prog 82 #[.pointer (some ⟨p.a,0,none⟩)] w' fun e w''=>∃v,e=.returned v∧(RL w p q lo c D D).r w' w''∧(vk w p q lo c D D D.clean HX.out).p w'' v:=fun w' h=>((h.1 H0.out).1.JV).mono fun e w'' ⟨a,cap,e1,e2,e3,e4⟩=>⟨_,e1,(RL w p q lo c D D).below e4,a,cap,rfl,e2,fun b off e=>by
  have:=(h.1 H0.out).2.1.lq
  have:=(h.1 H0.out).2.1.QO
  have:=e3 b off e
  omega⟩
 have HGv:∀w',(RL w p q lo c D D).r wr w'→Calls Tryz.prog 53 #[.pointer (some ⟨p.a,0,none⟩)] w' fun e w''=>∃v,e=.returned v∧(RL w p q lo c D D).r w' w''∧(vk w p q lo c D D D.grave HX.out).p w'' v:=fun w' h=>((h.1 H0.out).1.Gf HL.out.lq.2.2 HL.out.gl).mono fun e w'' ⟨a,cap,e1,e2,e3,e4⟩=>⟨_,e1,(RL w p q lo c D D).below e4,a,cap,rfl,e2,fun b off e=>by
  have:=(h.1 H0.out).2.1.lq
  have:=(h.1 H0.out).2.1.QO
  have:=e3 b off e
  omega⟩
 have HIn1:∀w',(RL w p q lo c D D).r wr w'→∀ad cap,Row w' .i64 ad (ints D.clean)→Calls Tryz.prog 81 #[.slice ad D.clean.length cap,.slice ca D.clean.length cc] w' fun e w''=>e=.returned (.bool true)∧(RL w p q lo c D D).r w' w'':=fun w' h ad cap hr=>(yL _ _ _ _ _ _ (ae _) hr (HN.out w' h).2.2.2.2.1 (by have:=HL.out.cl;omega)).mono fun e w'' ⟨e1,e2⟩=>⟨e1,(RL w p q lo c D D).below e2.new⟩
 have HIn2:∀w',(RL w p q lo c D D).r wr w'→∀ad cap,Row w' .i64 ad (ints D.grave)→Calls Tryz.prog 81 #[.slice ad D.grave.length cap,.slice ga D.grave.length gc] w' fun e w''=>e=.returned (.bool true)∧(RL w p q lo c D D).r w' w'':=fun w' h ad cap hr=>(yL _ _ _ _ _ _ (ae _) hr (HN.out w' h).2.2.2.2.2 (by have:=HL.out.gl;omega)).mono fun e w'' ⟨e1,e2⟩=>⟨e1,(RL w p q lo c D D).below e2.new⟩
 clear h hl
 go_enter Tryz.func17,Tryz.ntmps17
 go_wp2_with fail
 refine TX.wp_region_tame_all [TX.Fact.is (.pointer (some ⟨p.a,0,none⟩)),TX.Fact.is (.pointer (some ⟨q,0,none⟩)),TX.Fact.is (.bool true),TX.Fact.is (.bool false),TX.Fact.is (.bool false),TX.Fact.is (.pointer (some ⟨p.a,0,none⟩)),vk w p q lo c D D D.clean HX.out,TX.Fact.is (.pointer (some ⟨q,0,none⟩)),TX.Fact.is (.pointer (some ⟨q,0,none⟩)),TX.Fact.is (.pointer (some ⟨q,0,none⟩)),TX.Fact.is (.pointer (some ⟨hb,0,none⟩)),TX.Fact.is (.pointer (some ⟨hb,0,none⟩)),TX.Fact.is (.pointer (some ⟨hb,2,none⟩)),TX.Fact.is (.slice ca D.clean.length cc),TX.Fact.is (.bool true),TX.Fact.is (.bool false),TX.Fact.is (.bool false),TX.Fact.is (.bool false),TX.Fact.is (.pointer (some ⟨p.a,0,none⟩)),vk w p q lo c D D D.grave HX.out,TX.Fact.is (.pointer (some ⟨q,0,none⟩)),TX.Fact.is (.pointer (some ⟨q,0,none⟩)),TX.Fact.is (.pointer (some ⟨q,12,none⟩)),TX.Fact.is (.slice ga D.grave.length gc),TX.Fact.is (.bool true),TX.Fact.is (.bool false),TX.Fact.is (.bool false),TX.Fact.is (.bool false),TX.Fact.is (.pointer (some ⟨p.a,0,none⟩)),TX.Fact.is (.int .i64 D.pending),TX.Fact.is (.pointer (some ⟨q,0,none⟩)),TX.Fact.is (.pointer (some ⟨q,0,none⟩)),TX.Fact.is (.pointer (some ⟨q,13,none⟩)),TX.Fact.is (.int .i64 D.pending),TX.Fact.is (.bool false),TX.Fact.is (.bool false)] (by kernel_rfl) (by kernel_rfl) rfl (by kernel_rfl) (fun ops K2 hops hK=> ?_)
 refine TX.walkT_is (TX.wantedN rfl) (fun w' hC hd=>TX.tame_move _ (.inl rfl) rfl) (by go_frame;rfl) (by simp only[List.nil_append,List.cons_append];rfl) ?_
 refine TX.walkT_is (TX.wantedN rfl) (fun w' hC hd=>TX.tame_move _ (.inl rfl) rfl) (by go_frame;rfl) (by simp only[List.nil_append,List.cons_append];rfl) ?_
 refine TX.walkT_is (TX.wantedN rfl) (fun w' hC hd=>TX.tame_2 11 (.pointer (some ⟨p.a,0,none⟩)) 12 (.pointer (some ⟨q,0,none⟩)) rfl rfl (fun ρ hρ hf e0 e1=>TX.upon_call_rel (f:=80) (by go_simp) (HLk w' hC))) (by go_frame;rfl) (by simp only[List.nil_append,List.cons_append];rfl) ?_
 refine TX.walkT_is (TX.wantedN rfl) (fun w' hC hd=>TX.tame_1 13 (.bool true) rfl (fun ρ hρ hf e0=>TX.upon_is (by go_simp))) (by go_frame;rfl) (by simp only[List.nil_append,List.cons_append];rfl) ?_
 refine TX.walkT_is (TX.wantedN rfl) (fun w' hC hd=>TX.tame_move _ (.inl rfl) rfl) (by go_frame;rfl) (by simp only[List.nil_append,List.cons_append];rfl) ?_
 refine TX.walkT_is (TX.wantedT hops rfl rfl rfl rfl) (fun w' hC hd=>TX.tame_move _ (.inl rfl) rfl) (by go_frame;rfl) (by simp only[List.nil_append,List.cons_append];rfl) ?_
 refine pF (TX.wantedT hops rfl rfl rfl rfl) (fun w' hC hd=>TX.tame_1 16 (.pointer (some ⟨p.a,0,none⟩)) rfl (fun ρ hρ hf e0=>kD (f:=82) (by go_simp) (HPl w' hC))) (fun ad cap=>(by go_frame;rfl)) (fun ad=>(by simp only[List.nil_append,List.cons_append];rfl)) (fun ad1 cap1=> ?_)
 refine TX.walkT_is (TX.wantedT hops rfl rfl rfl rfl) (fun w' hC hd=>TX.tame_move _ (.inl rfl) rfl) (by go_frame;rfl) (by simp only[List.nil_append,List.cons_append];rfl) ?_
 refine TX.walkT_is (TX.wantedT hops rfl rfl rfl rfl) (fun w' hC hd=>TX.tame_1 18 (.pointer (some ⟨q,0,none⟩)) rfl (fun ρ hρ hf e0=>TX.upon_is (by go_simp))) (by go_frame;rfl) (by simp only[List.nil_append,List.cons_append];rfl) ?_
 refine TX.walkT_is (TX.wantedT hops rfl rfl rfl rfl) (fun w' hC hd=>TX.tame_1 19 (.pointer (some ⟨q,0,none⟩)) rfl (fun ρ hρ hf e0=>TX.upon_is (by go_simp))) (by go_frame;rfl) (by simp only[List.nil_append,List.cons_append];rfl) ?_
 refine TX.walkT_is (TX.wantedT hops rfl rfl rfl rfl) (fun w' hC hd=>TX.tame_1 20 (.pointer (some ⟨q,0,none⟩)) rfl (fun ρ hρ hf e0=>TX.upon_is (by have hc0:=cc0 w' hC;go_simp))) (by go_frame;rfl) (by simp only[List.nil_append,List.cons_append];rfl) ?_
 refine TX.walkT_is (TX.wantedT hops rfl rfl rfl rfl) (fun w' hC hd=>TX.tame_1 21 (.pointer (some ⟨hb,0,none⟩)) rfl (fun ρ hρ hf e0=>TX.upon_is (by go_simp))) (by go_frame;rfl) (by simp only[List.nil_append,List.cons_append];rfl) ?_
 refine TX.walkT_is (TX.wantedT hops rfl rfl rfl rfl) (fun w' hC hd=>TX.tame_1 22 (.pointer (some ⟨hb,0,none⟩)) rfl (fun ρ hρ hf e0=>TX.upon_is (by go_simp))) (by go_frame;rfl) (by simp only[List.nil_append,List.cons_append];rfl) ?_
 refine TX.walkT_is (TX.wantedT hops rfl rfl rfl rfl) (fun w' hC hd=>TX.tame_1 23 (.pointer (some ⟨hb,2,none⟩)) rfl (fun ρ hρ hf e0=>TX.upon_is (by have hc0:=ch2 w' hC;go_simp))) (by go_frame;rfl) (by simp only[List.nil_append,List.cons_append];rfl) ?_
 refine TX.walkT_is (TX.wantedT hops rfl rfl rfl rfl) (fun w' hC hd=>TX.tame_2 17 (.slice ad1 D.clean.length cap1) 24 (.slice ca D.clean.length cc) rfl rfl (fun ρ hρ hf e0 e1=>TX.upon_call_rel (f:=81) (by go_simp) (HIn1 w' hC ad1 cap1 (hd 6 (by kernel_rfl)).1))) (by go_frame;rfl) (by simp only[List.nil_append,List.cons_append];rfl) ?_
 refine TX.walkT_is (TX.wantedT hops rfl rfl rfl rfl) (fun w' hC hd=>TX.tame_1 25 (.bool true) rfl (fun ρ hρ hf e0=>TX.upon_is (by go_simp))) (by go_frame;rfl) (by simp only[List.nil_append,List.cons_append];rfl) ?_
 refine TX.walkT_is (TX.wantedN rfl) (fun w' hC hd=>TX.tame_pick _ _ _ false rfl rfl rfl) (by go_frame;rfl) (by simp only[List.nil_append,List.cons_append];rfl) ?_
 refine TX.walkT_is (TX.wantedN rfl) (fun w' hC hd=>TX.tame_move _ (.inl rfl) rfl) (by go_frame;rfl) (by simp only[List.nil_append,List.cons_append];rfl) ?_
 refine TX.walkT_is (TX.wantedT hops rfl rfl rfl rfl) (fun w' hC hd=>TX.tame_move _ (.inl rfl) rfl) (by go_frame;rfl) (by simp only[List.nil_append,List.cons_append];rfl) ?_
 refine pF (TX.wantedT hops rfl rfl rfl rfl) (fun w' hC hd=>TX.tame_1 29 (.pointer (some ⟨p.a,0,none⟩)) rfl (fun ρ hρ hf e0=>kD (f:=53) (by go_simp) (HGv w' hC))) (fun ad cap=>(by go_frame;rfl)) (fun ad=>(by simp only[List.nil_append,List.cons_append];rfl)) (fun ad2 cap2=> ?_)
 refine TX.walkT_is (TX.wantedT hops rfl rfl rfl rfl) (fun w' hC hd=>TX.tame_move _ (.inl rfl) rfl) (by go_frame;rfl) (by simp only[List.nil_append,List.cons_append];rfl) ?_
 refine TX.walkT_is (TX.wantedT hops rfl rfl rfl rfl) (fun w' hC hd=>TX.tame_1 31 (.pointer (some ⟨q,0,none⟩)) rfl (fun ρ hρ hf e0=>TX.upon_is (by go_simp))) (by go_frame;rfl) (by simp only[List.nil_append,List.cons_append];rfl) ?_
 refine TX.walkT_is (TX.wantedT hops rfl rfl rfl rfl) (fun w' hC hd=>TX.tame_1 32 (.pointer (some ⟨q,0,none⟩)) rfl (fun ρ hρ hf e0=>TX.upon_is (by go_simp))) (by go_frame;rfl) (by simp only[List.nil_append,List.cons_append];rfl) ?_
 refine TX.walkT_is (TX.wantedT hops rfl rfl rfl rfl) (fun w' hC hd=>TX.tame_1 33 (.pointer (some ⟨q,12,none⟩)) rfl (fun ρ hρ hf e0=>TX.upon_is (by have hc0:=cc12 w' hC;go_simp))) (by go_frame;rfl) (by simp only[List.nil_append,List.cons_append];rfl) ?_
 refine TX.walkT_is (TX.wantedT hops rfl rfl rfl rfl) (fun w' hC hd=>TX.tame_2 30 (.slice ad2 D.grave.length cap2) 34 (.slice ga D.grave.length gc) rfl rfl (fun ρ hρ hf e0 e1=>TX.upon_call_rel (f:=81) (by go_simp) (HIn2 w' hC ad2 cap2 (hd 19 (by kernel_rfl)).1))) (by go_frame;rfl) (by simp only[List.nil_append,List.cons_append];rfl) ?_
 refine TX.walkT_is (TX.wantedT hops rfl rfl rfl rfl) (fun w' hC hd=>TX.tame_1 35 (.bool true) rfl (fun ρ hρ hf e0=>TX.upon_is (by go_simp))) (by go_frame;rfl) (by simp only[List.nil_append,List.cons_append];rfl) ?_
 refine TX.walkT_is (TX.wantedN rfl) (fun w' hC hd=>TX.tame_pick _ _ _ false rfl rfl rfl) (by go_frame;rfl) (by simp only[List.nil_append,List.cons_append];rfl) ?_
 refine TX.walkT_is (TX.wantedN rfl) (fun w' hC hd=>TX.tame_move _ (.inl rfl) rfl) (by go_frame;rfl) (by simp only[List.nil_append,List.cons_append];rfl) ?_
 refine TX.walkT_is (TX.wantedT hops rfl rfl rfl rfl) (fun w' hC hd=>TX.tame_move _ (.inl rfl) rfl) (by go_frame;rfl) (by simp only[List.nil_append,List.cons_append];rfl) ?_
 refine TX.walkT_is (TX.wantedT hops rfl rfl rfl rfl) (fun w' hC hd=>TX.tame_1 39 (.pointer (some ⟨p.a,0,none⟩)) rfl (fun ρ hρ hf e0=>TX.upon_call_rel (f:=54) (by go_simp) (HSe w' hC))) (by go_frame;rfl) (by simp only[List.nil_append,List.cons_append];rfl) ?_
 refine TX.walkT_is (TX.wantedT hops rfl rfl rfl rfl) (fun w' hC hd=>TX.tame_move _ (.inl rfl) rfl) (by go_frame;rfl) (by simp only[List.nil_append,List.cons_append];rfl) ?_
 refine TX.walkT_is (TX.wantedT hops rfl rfl rfl rfl) (fun w' hC hd=>TX.tame_1 41 (.pointer (some ⟨q,0,none⟩)) rfl (fun ρ hρ hf e0=>TX.upon_is (by go_simp))) (by go_frame;rfl) (by simp only[List.nil_append,List.cons_append];rfl) ?_
 refine TX.walkT_is (TX.wantedT hops rfl rfl rfl rfl) (fun w' hC hd=>TX.tame_1 42 (.pointer (some ⟨q,0,none⟩)) rfl (fun ρ hρ hf e0=>TX.upon_is (by go_simp))) (by go_frame;rfl) (by simp only[List.nil_append,List.cons_append];rfl) ?_
 refine TX.walkT_is (TX.wantedT hops rfl rfl rfl rfl) (fun w' hC hd=>TX.tame_1 43 (.pointer (some ⟨q,13,none⟩)) rfl (fun ρ hρ hf e0=>TX.upon_is (by have hc0:=cc13 w' hC;go_simp))) (by go_frame;rfl) (by simp only[List.nil_append,List.cons_append];rfl) ?_
 refine TX.walkT_is (TX.wantedT hops rfl rfl rfl rfl) (fun w' hC hd=>TX.tame_2 40 (.int .i64 D.pending) 44 (.int .i64 D.pending) rfl rfl (fun ρ hρ hf e0 e1=>TX.upon_is (by have hb0:=(show((D.pending:Int)!=D.pending)=false by simp);go_simp))) (by go_frame;rfl) (by simp only[List.nil_append,List.cons_append];rfl) ?_
 refine TX.walkT_is (TX.wantedN rfl) (fun w' hC hd=>TX.tame_pick _ _ _ false rfl rfl rfl) (by go_frame;rfl) (by simp only[List.nil_append,List.cons_append];rfl) ?_
 refine TX.walkT_nil (fun w2 hC hk=>hK _ _ ?_)
 have H2:=hid (hC.1 H0.out)
 have HT2:=hid hC.2
 clear hC hk hK cc0 ch2 cc12 cc13 HLk HSe HPl HGv HIn1 HIn2 HN
 have HIR:Hid (∀k,k<D.refs.length→∃t,t∈D.live∧nth D.refs k=(t.h:Int)+1∧D.find (nth D.refs k)=some t):=hid (fun k hk=>GQ HL.out.san hk)
 have HI64:Hid (∀k,k<D.refs.length→In64 (nth D.refs k)):=hid (fun k hk=>xW HL.out.lq.2.2 hk)
 have HLn:Hid (D.refs.length≤8000):=hid (Nat.le_trans (uX _) HL.out.lq.2.1)
 have HRf:=hid (H2.out.2.1.refs (by have:=HL.out.lq.2.1;omega))
 go_wp2_with fail
 refine HRf.out.mono ?_
 rintro e w3 ⟨ar,cr,rfl,hr,hf,hb⟩
 have H3:=hid (H2.out.later hb)
 have HT3:=hid (HT2.out.trans (Touch.of_below hb))
 have HR3:=hid hr
 clear hr hf hb HRf
 go_wp2_with fail
 go_loopw [50] (fun s wx=>∃k:Nat,k≤D.refs.length∧s=.int .i64 (k:Int)∧kY w p q lo c D D wx∧Touch (inG p) wr wx∧Row wx .i64 ar D.refs) (fun s _=>D.refs.length-(intOf s).toNat)
 case atStart=>exact⟨0,Nat.zero_le _,rfl,H3.out,HT3.out,HR3.out⟩
 case round=>
  obtain⟨k,hk,rfl,hS,hT,hR⟩:=hrel
  have H4:=hid hS
  have HT4:=hid hT
  have HR4:=hid hR
  clear hS hT hR
  by_cases hlt:k<D.refs.length
  ·obtain⟨bb,off,rfl,hbb,hc⟩:=HR4.out k hlt
   obtain⟨t,htl,hrt,hf⟩:=HIR.out k hlt
   have h64:=hid (HI64.out k hlt)
   have hk8:k<8000:=by have:=HLn.out;omega
   obtain⟨hz,hz1,hz2⟩:=HL.out.sz t htl
   have HLz:Hid (t.pt.length≤10000∧t.dt.length≤10000):=hid ⟨hz1,hz2⟩
   have HZ:=hid hz
   clear hz hz1 hz2 hrt htl
   generalize nth D.refs k=r at*
   have HF:=hid hf
   clear hf
   have nb:(D.cnt r !=D.cnt r)=false:=by simp
   go_wp2_with fail
   refine(Lx HL.out.san HF.out H4.out.1).mono ?_
   rintro e w5 ⟨a1,c1,a2,c2,rfl,r1,r2,hb⟩
   have hbx:=Blk.new w5 #[.slice a1 t.pt.length c1,.slice a2 t.dt.length c2] 95
   have HB5:Hid (Below _ _ (w5.alloc (.cells #[.slice a1 t.pt.length c1,.slice a2 t.dt.length c2] 95))):=hid (below_step hb (below_new w5 _))
   have H5:=hid (H4.out.later HB5.out)
   have HR1:=hid (r1.later (below_new w5 (.cells #[.slice a1 t.pt.length c1,.slice a2 t.dt.length c2] 95)))
   have HR2:=hid (r2.later (below_new w5 (.cells #[.slice a1 t.pt.length c1,.slice a2 t.dt.length c2] 95)))
   have HBx:=hid hbx
   have hlt5:w5.heap.size<(w5.alloc (.cells #[.slice a1 t.pt.length c1,.slice a2 t.dt.length c2] 95)).heap.size:=by simp
   clear hb r1 r2 hbx
   generalize hn7:w5.heap.size=n7 at*
   obtain⟨hb,ch,hsee⟩:=H5.out.2.1.QG HF.out HZ.out
   have HSe:=hid hsee
   clear hsee hc
   go_wp2_with fail
   generalize hw6:w5.alloc (.cells #[.slice a1 t.pt.length c1,.slice a2 t.dt.length c2] 95)=w6 at*
   clear hw6
   refine HSe.out.mono ?_
   rintro e w7 ⟨b1,d1,b2,d2,rfl,s1,s2,hb7⟩
   have HB7:Hid (Below _ _ (w7.alloc (.cells #[.slice b1 t.pt.length d1,.slice b2 t.dt.length d2] 95))):=hid (below_step hb7 (below_new w7 _))
   have H7:=hid (H5.out.later HB7.out)
   have HS1:=hid (s1.later (below_new w7 (.cells #[.slice b1 t.pt.length d1,.slice b2 t.dt.length d2] 95)))
   have HS2:=hid (s2.later (below_new w7 (.cells #[.slice b1 t.pt.length d1,.slice b2 t.dt.length d2] 95)))
   have HQ1:=hid (HR1.out.later HB7.out)
   have HQ2:=hid (HR2.out.later HB7.out)
   have HBy:=hid (Blk.new w7 #[.slice b1 t.pt.length d1,.slice b2 t.dt.length d2] 95)
   have HBz:=hid (HBx.out.later HB7.out)
   generalize hn9:w7.heap.size=n9 at*
   clear hb7 s1 s2 ch
   go_wp2_with fail
   generalize hw8:w7.alloc (.cells #[.slice b1 t.pt.length d1,.slice b2 t.dt.length d2] 95)=w8 at*
   clear hw8
   refine(H7.out.1.IU h64.out).mono ?_
   rintro e w9 ⟨rfl,hb9⟩
   have H9:=hid (H7.out.later hb9)
   have HB9:=hid hb9
   clear hb9
   go_wp2_with fail
   refine(H9.out.2.1.Ns r).mono ?_
   rintro e w10 ⟨rfl,rfl⟩
   have z70:=(HBz.out.later HB9.out).cell 0 rfl
   have z71:=(HBz.out.later HB9.out).cell 1 rfl
   have z90:=(HBy.out.later HB9.out).cell 0 rfl
   have z91:=(HBy.out.later HB9.out).cell 1 rfl
   go_wp2_with fail
   refine(yL _ _ _ _ _ _ (jH D.w t) (HQ1.out.later HB9.out) (HS1.out.later HB9.out) HLz.out.1).mono ?_
   rintro e w11 ⟨rfl,hd⟩
   have HB11:=hid (below_step HB9.out hd.new)
   have H11:=hid (H9.out.later hd.new)
   clear hd z70 z71 z90 z91
   have z71:=(HBz.out.later HB11.out).cell 1 rfl
   have z91:=(HBy.out.later HB11.out).cell 1 rfl
   go_wp2_with fail
   refine(Kl (CV D.w t) _ _ _ _ _ _ (lC D.w t) (HQ2.out.later HB11.out) (HS2.out.later HB11.out) (by have:=HLz.out.2;unfold maxLen;omega)).mono ?_
   rintro e w12 ⟨rfl,hd⟩
   have H12:=hid (H11.out.later hd.new)
   have HBw:Hid (Below wr.heap.size wr w12):=hid (below_step (below_step (below_step HB5.out HB7.out) HB11.out) hd.new)
   clear hd z71 z91
   go_wp2_with fail
   go_roundw
   case rel=>exact⟨k+1,by omega,by go_num,H12.out,HT4.out.trans (Touch.of_below HBw.out),HR4.out.later HBw.out⟩
   case measure=>simp[intOf];omega
  ·go_wp2_with fail
   go_ret
   exact⟨rfl,H4.out,HT4.out⟩
end
section
variable {c:Cf} {zs zs':List Int} {D D':Wd} {t u:Th} {r x y:Int} {w wr w':World} {p:Pl} {q lo m k n:Nat}
structure Sit (c:Cf) (D:Wd):Prop where
 san:San D
 lN:∃zs,Wz c zs∧ak c zs D
theorem RSt.sit(h:RSt w p c D wr)(S:San D):Sit c D:=by
 obtain⟨zs,m,hG,hR,_⟩:=h
 exact⟨S,zs,hG.wz,hR⟩
theorem Sit.wb(h:Sit c D)(hN:c.N≤1000):WB D:=by
 obtain⟨zs,hz,R⟩:=h.lN
 have hp:=h.san.pendBd R hz.may
 have h1:=bA R.ring.nd R.ring.lt
 have h2:(D.grave.map (· -1)).length≤c.N:=bA R.grave.nd R.grave.lt
 have h3:=bA R.heap.pl.ch.nd R.heap.pl.ch.lt
 rw[List.length_map] at h2
 refine⟨by omega,by omega,by omega,hp.1,by omega,fun r t hf=> ?_,fun r t hf=> ?_,fun r t hf=> ?_⟩
 ·have:=(R.sizes hz (find_live hf).1).2;omega
 ·exact R.refs0 hz (find_live hf).1
 ·have e:=(R.own t (find_live hf).1).w4
  have:=hz.wf (adr c t.h 4)
  rw[←e]
  exact this
theorem Sit.lens(h:Sit c D):D.ring.length≤c.N∧D.grave.length≤c.N∧D.clean.length≤c.N:=by
 obtain⟨zs,hz,R⟩:=h.lN
 have h1:=bA R.ring.nd R.ring.lt
 have h2:(D.grave.map (· -1)).length≤c.N:=bA R.grave.nd R.grave.lt
 have h3:=bA R.heap.pl.ch.nd R.heap.pl.ch.lt
 rw[List.length_map] at h2
 exact⟨h1,h2,h3⟩
theorem Sit.Lg(h:Sit c D)(ht:t∈D.live):CS D.w t:=by
 obtain⟨zs,hz,R⟩:=h.lN
 exact R.Lg hz.may h.san ht
theorem Sit.wd(h:Sit c D):D.w=c.W∧c.May:=by
 obtain⟨zs,hz,R⟩:=h.lN
 exact⟨R.w,hz.may⟩
theorem Sit.step(h:Sit c D):Sit c D.step:=by
 obtain⟨zs,hz,R⟩:=h.lN
 obtain⟨zs1,_,R1,hz1⟩:=(yD (c:=c) h.san).at hz R
 exact⟨h.san.step,zs1,hz1,R1⟩
theorem Sit.QP(hN:c.N≤1000):Stp (Sit c) where
 wb:=fun D h=>h.wb hN
 san:=fun D h=>h.san
 w1:=fun D h=>by have:=h.wd;have:=this.2.w;omega
 pt:=fun D h t ht=>by have:=(h.Lg ht).small;omega
 step:=fun D h=>h.step
theorem Sit.Mi(h:Sit c D)(hf:D.find r=some t)(hd:t.mr.dead=false){k:Nat}(hk:k<t.pt.length+t.dt.length):dC D.w t k=false:=by
 obtain⟨htl,_⟩:=find_live hf
 have z:=h.Lg htl
 unfold dC
 by_cases hb:t.pt.length+t.dt.length≤D.w-8
 ·simp[hb]
 ·have hj:=z.leaf hb hk
  obtain⟨b,hbb⟩:=(h.san.ok t htl).alive hd _ hj
  have:nth t.lv (k/(D.w-1))=(b:Int):=by unfold nth;rw[List.getD_eq_getElem?_getD,hbb];rfl
  rw[this]
  simp
theorem Aj(r:Int)(i:Nat)(x:Int):∃l,(D.drain r i x).grave=D.grave++l:=by
 have key:∀D2:Wd,D2.grave=D.grave→∃l,(if(D2.down x).cnt x=0 then(D2.down x).bury x else D2.down x).grave=D.grave++l:=fun D2 h2=>by
  split
  ·obtain⟨l,hl⟩:=Da (D:=D2.down x) x
   exact⟨l,by rw[hl];show D2.grave++l=_;rw[h2]⟩
  ·exact⟨[],by rw[List.append_nil];exact h2⟩
 unfold Wd.drain
 by_cases hc:(D.setP r i 0).cnt x=0
 ·rw[if_pos hc];exact⟨[],by rw[List.append_nil];rfl⟩
 ·rw[if_neg hc]
  refine key _ ?_
  split
  ·exact(fu (D:=D.setP r i 0) x).2.1
  ·rfl
theorem EO:∀(k:Nat) {D:Wd} {g:Nat} {rest:List Nat} {t:Th},San D→D.grave=g::rest→D.find (g:Int)=some t→t.mr.left-D.ahead t.mr.leaves≤(k:Int)→Ends (k+1) D
 |0,D,g,rest,t,S,hg,hf,hk=>by
  right;left
  unfold Wd.gives
  rw[hg]
  simp only
  rw[hf]
  simp
  omega
 |k+1,D,g,rest,t,S,hg,hf,hk=>by
  right
  by_cases ha:D.ahead t.mr.leaves<t.mr.left
  ·right
   obtain⟨t',_,_,hf',hd,d,es⟩:=S.head hg
   rw[hf] at hf'
   cases hf'
   have hst:D.step=(D.drain (g:Int) (t.mr.left-1).toNat (nth t.pt (t.mr.left-1).toNat)).mark (g:Int) (fun m=>{m with left:=t.mr.left-1}):=by
    rw[es]
    unfold Wd.work
    rw[if_pos ha]
   obtain⟨l,hl⟩:=Aj (D:=D) (g:Int) (t.mr.left-1).toNat (nth t.pt (t.mr.left-1).toNat)
   obtain⟨f,h1,h2,h3,h4⟩:=pg hf hd (t.mr.left-1).toNat (nth t.pt (t.mr.left-1).toNat)
   have hg2:D.step.grave=g::(rest++l):=by rw[hst];show(D.drain _ _ _).grave=_;rw[hl,hg];rfl
   have hf2:D.step.find (g:Int)=some {t with pt:=t.pt.set (t.mr.left-1).toNat 0,mr:={f t.mr with left:=t.mr.left-1}}:=by
    rw[hst,find_mark,h1]
    have:=find_at_r h1
    simp only[Option.map_some,this,if_true]
   have hw:D.step.w=D.w:=by rw[hst];exact(EN (D:=D) (r:=(g:Int)) _ _).1
   refine EO k S.step hg2 hf2 ?_
   show t.mr.left-1-D.step.ahead (f t.mr).leaves≤(k:Int)
   have:D.step.ahead (f t.mr).leaves=D.ahead t.mr.leaves:=by unfold Wd.ahead;rw[h4,hw]
   rw[this]
   omega
  ·left
   unfold Wd.gives
   rw[hg]
   simp only
   rw[hf]
   simp
   omega
theorem San.ends(S:San D){n:Nat}(hn:D.w≤n):Ends n D:=by
 have hw:=S.w
 cases hg:D.grave with
 |nil=>
  cases n with
  |zero=>exact hg
  |succ n=>exact .inl hg
 |cons g rest=>
  obtain⟨t,htl,_,hf,hd,d,_⟩:=S.head hg
  obtain⟨n',rfl⟩:∃n',n=n'+1:=⟨n-1,by omega⟩
  refine EO n' S hg hf ?_
  have geo:=(S.ok t htl).geo
  have l0:=d.l0
  have f1:=d.f1
  by_cases hl:0<t.mr.leaves
  ·have hne:t.lv≠[]:=fun e=>by have:=d.l1;rw[e] at this;simp at this;omega
   have h1:=d.fl hne
   rw[xe S hl]
   have h2:(t.mr.leaves-1)*((D.w:Int)-1)=t.mr.leaves*((D.w:Int)-1)-((D.w:Int)-1):=by rw[Int.sub_mul,Int.one_mul]
   rw[h2]
   omega
  ·have h0:t.mr.leaves=0:=by omega
   rw[h0,ahead_zero]
   by_cases hb:t.pt.length+t.dt.length≤D.w-8
   ·omega
   ·have h1:=d.fl (geo.big hb).1
    rw[h0,Int.zero_mul] at h1
    omega
set_option maxHeartbeats 1000000 in
theorem Dv(h:RSt w p c D wr)(S:San D):
  Calls Tryz.prog 52 #[.pointer (some ⟨p.a,0,none⟩)] wr fun e w'=>e=.returned (.bool (D.gF (c.W*c.W)))∧(RSt w p c (D.eY (c.W*c.W)) w'∧San (D.eY (c.W*c.W)))∧Touch (inG p) wr w':=by
 have hw:=(h.sit S).wd.2.w
 have HC:=hid h.confC
 have H0:=hid h
 have HS:=hid S
 have hmm:(c.W:Int)*(c.W:Int)=((c.W*c.W:Nat):Int):=(Int.natCast_mul _ _).symm
 have hml:c.W*c.W≤256*256:=Nat.mul_le_mul (by omega) (by omega)
 have hwr:IntKind.i64.wrap ((c.W:Int)*(c.W:Int))=((c.W*c.W:Nat):Int):=by rw[hmm];exact IntWalk.i64_in _ (by omega)
 have hfc:=cfield1 (c.N:Int) (c.W:Int) (c.R:Int) (c.K:Int)
 generalize hMd:c.W*c.W=M at*
 clear h S hw hmm hMd
 go_enter Tryz.func52,Tryz.ntmps52
 go_wp2_with fail
 refine HC.out.mono ?_
 rintro e w1 ⟨rfl,hb⟩
 have H1:=hid (H0.out.later hb)
 have T1:=hid (Touch.of_below (X:=inG p) hb)
 clear hb
 go_wp2_with fail
 go_loopw [12] (fun s wx=>∃i:Nat,i≤M∧s=.int .i64 (i:Int)∧∃D',RSt w p c D' wx∧San D'∧D'.eY (M-i)=D.eY M∧D'.gF (M-i)=D.gF M∧Touch (inG p) wr wx) (fun s _=>M-(intOf s).toNat)
 case atStart=>exact⟨0,Nat.zero_le _,rfl,D,H1.out,HS.out,rfl,rfl,T1.out⟩
 case round=>
  obtain⟨i,hi,rfl,D',hR,hS,e1,e2,hT⟩:=hrel
  have HR:=hid hR
  have HT:=hid hT
  have HSn:=hid hS
  by_cases hlt:i<M
  ·have HSt:=hid (yD (c:=c) hS)
   have hmi:M-i=(M-(i+1))+1:=by omega
   rw[hmi] at e1 e2
   cases hg:D'.grave.isEmpty with
   |true=>
    have E:Hid (D'.step=D.eY M∧false=D.gF M∧D'.step=D'):=hid (by
     have hs:D'.step=D':=by
      unfold Wd.step
      have:=List.isEmpty_iff.1 hg
      rw[this]
     rw[hs,←e1,←e2]
     unfold Wd.eY Wd.gF
     rw[hg]
     exact⟨rfl,rfl,rfl⟩)
    have hgv:D'.gives=false:=by
     unfold Wd.gives
     rw[List.isEmpty_iff.1 hg]
    rw[hg,hgv] at HSt
    clear hR hS e1 e2 hT hg hgv
    go_wp2_with fail
    refine(HR.out.does HSt.out).mono ?_
    rintro e w2 ⟨rfl,h2,k2⟩
    have H2:=hid h2
    have T2:=hid (HT.out.trans k2)
    clear h2 k2
    go_wp2_with fail
    go_ret
    exact⟨by rw[←E.out.2.1];rfl,⟨by rw[←E.out.1];exact H2.out,by rw[←E.out.1];exact HSn.out.step⟩,T2.out⟩
   |false=>
    cases hgv:D'.gives with
    |true=>
     have E:Hid (D'.step=D.eY M∧true=D.gF M):=hid (by
      rw[←e1,←e2]
      unfold Wd.eY Wd.gF
      rw[hg,hgv]
      exact⟨rfl,rfl⟩)
     rw[hg,hgv] at HSt
     clear hR hS e1 e2 hT hg hgv
     go_wp2_with fail
     refine(HR.out.does HSt.out).mono ?_
     rintro e w2 ⟨rfl,h2,k2⟩
     have H2:=hid h2
     have T2:=hid (HT.out.trans k2)
     clear h2 k2
     go_wp2_with fail
     go_ret
     exact⟨by rw[←E.out.2];rfl,⟨by rw[←E.out.1];exact H2.out,by rw[←E.out.1];exact HSn.out.step⟩,T2.out⟩
    |false=>
     have E:Hid (D'.step.eY (M-(i+1))=D.eY M∧D'.step.gF (M-(i+1))=D.gF M):=hid (by
      rw[←e1,←e2]
      constructor
      ·conv=>rhs;unfold Wd.eY
       rw[hg,hgv]
       rfl
      ·conv=>rhs;unfold Wd.gF
       rw[hg,hgv]
       rfl)
     rw[hg,hgv] at HSt
     clear hR hS e1 e2 hT hg hgv
     go_wp2_with fail
     refine(HR.out.does HSt.out).mono ?_
     rintro e w2 ⟨rfl,h2,k2⟩
     have H2:=hid h2
     have T2:=hid (HT.out.trans k2)
     clear h2 k2
     go_wp2_with fail
     go_roundw
     case rel=>exact⟨i+1,by omega,by go_num,_,H2.out,HSn.out.step,E.out.1,E.out.2,T2.out⟩
     case measure=>simp[intOf];omega
  ·have E:Hid (D'=D.eY M∧false=D.gF M):=hid (by
    rw[←e1,←e2,show M-i=0 by omega]
    exact⟨rfl,rfl⟩)
   clear hR hS e1 e2 hT
   go_wp2_with fail
   go_ret
   exact⟨by rw[←E.out.2];rfl,⟨by rw[←E.out.1];exact HR.out,by rw[←E.out.1];exact HSn.out⟩,HT.out⟩
theorem yf(l pool:List Nat):∀k,iC c l pool k≤k*(c.W+7)
 |0=>by simp[iC]
 |k+1=>by
  have:=yf l pool k
  have ht:takeD (l.drop (k+1)++pool)≤7:=by unfold takeD;split<;>omega
  show iC c l pool k+(takeD (l.drop (k+1)++pool)+c.W)≤_
  rw[Nat.add_mul]
  omega
theorem Gu(D:Wd)(x y:Int)(h:Ld w p c D m wr):
  Calls Tryz.prog 93 #[.pointer (some ⟨p.a,0,none⟩),.int .i64 x,.int .i64 y] wr fun e w'=>e=.returned (.tuple #[.int .i64 (D.mkR x y),.int .i64 (D.mkE x y)])∧(∃d,d≤8+2*c.W*(if D.mkE x y=0 then 1+D.mkN x y else 0)∧Ld w p c (D.mkD x y) (m+d) w')∧Touch (inG p) wr w':=by
 obtain⟨zs,hG,hR,hp,hB⟩:=h
 have hW:(D.w:Int)=(c.W:Int):=by rw[hR.w]
 by_cases h0:D.mkE x y=0
 ·obtain⟨hs,ex,ey,_,_,hcl,hk⟩:=DI h0
  have hH:=hR.heap
  rw[hcl] at hH
  rw[hW] at hs hk
  have H:=si (s:=⟨zs,m⟩) (w:=wr) D.mkB x.toNat y.toNat (D.clean.tail.take (D.mkN x y)) (D.clean.tail.drop (D.mkN x y)) D.obs hG hH (by rw[ex,ey];exact hs) (by rw[ex,ey];exact hk)
  have hM:=Fh (h:=D.mkB) (ls:=D.clean.tail.take (D.mkN x y)) (pool:=D.clean.tail.drop (D.mkN x y)) (os:=D.obs) (p:=x.toNat) (d:=y.toNat) hG.wz.may hG.wz.len hH (by rw[ex,ey];exact hs) (by rw[ex,ey];exact hk)
  rw[ex,ey] at H hM
  refine H.mono ?_
  rintro e w' ⟨rfl,hG',hT⟩
  refine⟨by unfold Wd.mkR;rw[h0];rfl,⟨_,?_,_,hG',?_,hp,hB.trans (hT.below hp hB.size)⟩,hT⟩
  ·rw[if_pos h0]
   have hlen:(D.clean.tail.take (D.mkN x y)).length≤D.mkN x y:=by rw[List.length_take];omega
   have h1:=yf (c:=c) (D.mkB::D.clean.tail.take (D.mkN x y)) (D.clean.tail.drop (D.mkN x y)) (D.mkB::D.clean.tail.take (D.mkN x y)).length
   have hw:=hG.wz.may.w
   unfold xJ
   generalize D.clean.tail.take (D.mkN x y)=L at*
   rw[List.length_cons] at h1 ⊢
   generalize D.mkN x y=K at*
   have h2:(L.length+1)*(c.W+7)≤(K+1)*(c.W+7):=Nat.mul_le_mul_right _ (by omega)
   have h3:(K+1)*(c.W+7)+(K+1)*9≤(K+1)*(2*c.W):=by rw[←Nat.mul_add];exact Nat.mul_le_mul_left _ (by omega)
   have h4:2*c.W*(1+K)=(K+1)*(2*c.W):=by rw[Nat.mul_comm,Nat.add_comm]
   rw[h4]
   omega
  ·unfold Wd.mkD
   rw[if_pos h0]
   exact hM.lN hR hG.may hcl
 ·have hD:D.mkD x y=D:=by unfold Wd.mkD;rw[if_neg h0]
  have hRv:D.mkR x y=0:=by unfold Wd.mkR;rw[if_neg h0]
  rw[hD,hRv]
  by_cases hs:sizeE (D.w:Int) x y=0
  ·have hl:(D.clean.length:Int)<blocksV (D.w:Int) x y:=by
    by_cases hl:(D.clean.length:Int)<blocksV (D.w:Int) x y
    ·exact hl
    ·exact absurd (by unfold Wd.mkE;rw[if_pos hs,if_neg hl]) h0
   have hE:D.mkE x y=4:=by unfold Wd.mkE;rw[if_pos hs,if_pos hl]
   rw[hE]
   rw[hW] at hs hl
   refine(qh (s:=⟨zs,m⟩) (w:=wr) x y D.clean hG hR.heap.pl.ch hs hl).mono ?_
   rintro e w' ⟨rfl,hG',hT⟩
   exact⟨rfl,⟨1,by omega,zs,hG',hR,hp,hB.trans (hT.below hp hB.size)⟩,hT⟩
  ·have hE:D.mkE x y=sizeE (c.W:Int) x y:=by unfold Wd.mkE;rw[if_neg hs,hW]
   rw[hE]
   rw[hW] at hs
   refine(qi (s:=⟨zs,m⟩) (w:=wr) x y hG hs).mono ?_
   rintro e w' ⟨rfl,hG',hT⟩
   exact⟨rfl,⟨0,by omega,zs,hG',hR,hp,hB.trans (hT.below hp hB.size)⟩,hT⟩
end
section
variable {c:Cf} {D D':Wd} {t u:Th} {r x y:Int} {k K N n:Nat}
def fe(k:Nat)(D:Wd):Prop:=∀q t,D.find q=some t→t.mr.refs≤(k:Int)∧t.mr.shadow≤(k:Int)
theorem fe.mono(h:fe k D)(hk:k≤K):fe K D:=fun q t hf=>by have:=h q t hf;omega
theorem fe.ts(h:fe k D)(e:D'.ts=D.ts):fe k D':=fun q t hf=>h q t (by unfold Wd.find at *;rw[←e];exact hf)
theorem fe.upd(h:fe k D)(r:Int)(g:Th→Th)(hk:k≤K)(hg:∀t,(g t).ended=t.ended∧(g t).h=t.h)(h1:∀t,D.find r=some t→(g t).mr.refs≤(K:Int)∧(g t).mr.shadow≤(K:Int)):fe K (D.upd r g):=fun q s hs=>by
 rw[ng hg] at hs
 cases hq:D.find q with
 |none=>rw[hq] at hs;cases hs
 |some t=>
  rw[hq] at hs
  simp only[Option.map_some,Option.some.injEq] at hs
  by_cases e:t.at r=true
  ·rw[if_pos e] at hs
   have hr:q=r:=by
    have:=(find_live hq).2
    unfold Th.at at e
    simp at e
    omega
   subst hs
   exact h1 t (by rw[←hr];exact hq)
  ·rw[if_neg e] at hs
   subst hs
   have:=h q t hq
   omega
theorem fe.mark(h:fe k D)(r:Int)(f:Mrk→Mrk)(hk:k≤K)(h1:∀t,D.find r=some t→(f t.mr).refs≤(K:Int)∧(f t.mr).shadow≤(K:Int)):fe K (D.mark r f):=
 h.upd r (fun t=>{t with mr:=f t.mr}) hk (fun _=>⟨rfl,rfl⟩) h1
theorem fe.keep(h:fe k D)(r:Int)(f:Mrk→Mrk)(h1:∀m,(f m).refs≤m.refs)(h2:∀m,(f m).shadow≤m.shadow):fe k (D.mark r f):=
 h.mark r f (Nat.le_refl _) (fun t ht=>by have:=h r t ht;have:=h1 t.mr;have:=h2 t.mr;omega)
theorem fe.setP(h:fe k D)(r:Int)(i:Nat)(x:Int):fe k (D.setP r i x):=h.upd r (fun t=>{t with pt:=t.pt.set i x}) (Nat.le_refl _) (fun _=>⟨rfl,rfl⟩) (fun t ht=>h r t ht)
theorem fe.touch(h:fe k D)(r:Int):fe k (D.touch r):=by
 rcases touch_ts (D:=D) r with e|e
 ·exact h.ts e
 ·exact(h.keep r (fun m=>{m with color:=D.parity}) (fun _=>Int.le_refl _) (fun _=>Int.le_refl _)).ts e
theorem fe.more(h:fe k D)(r:Int):fe (k+1) (D.more r):=
 (h.mark r (fun m=>{m with refs:=m.refs+1}) (Nat.le_succ k) (fun t ht=>by have:=h r t ht;show t.mr.refs+1≤_∧t.mr.shadow≤_;omega)).touch r
theorem fe.down(h:fe k D)(r:Int):fe k (D.down r):=h.keep r (fun m=>{m with refs:=m.refs-1}) (fun m=>by show m.refs-1≤m.refs;omega) (fun _=>Int.le_refl _)
theorem fe.lighten(h:fe k D)(r:Int):fe k (D.lighten r):=by
 unfold Wd.lighten
 split
 ·exact h.keep r (fun m=>{m with shadow:=m.shadow-1}) (fun _=>Int.le_refl _) (fun m=>by show m.shadow-1≤m.shadow;omega)
 ·exact h
theorem fe.bury(h:fe k D)(x:Int):fe k (D.bury x):=by
 unfold Wd.bury
 cases hf:D.find x with
 |none=>exact h
 |some t=>
  simp only
  split
  ·exact h
  ·have:fe k (D.upd x (fun s=>{s with mr:={s.mr with dead:=true,left:=(t.pt.length:Int),leaves:=(t.lv.length:Int)}})):=h.upd x _ (Nat.le_refl _) (fun _=>⟨rfl,rfl⟩) (fun u hu=>h x u hu)
   exact this.ts (lay_ts x t)
theorem fe.inter(h:fe k D)(x:Int):fe k (D.inter x):=by
 unfold Wd.inter
 split
 ·exact h.bury x
 ·exact h
theorem fe.less(h:fe k D)(r:Int):fe k (D.less r):=((h.down r).ts (D':=(D.down r).sus) rfl).inter r
theorem fe.drain(h:fe k D)(r:Int)(i:Nat)(x:Int):fe k (D.drain r i x):=by
 have key:∀D2:Wd,fe k D2→fe k (if(D2.down x).cnt x=0 then(D2.down x).bury x else D2.down x):=fun D2 h2=>by
  split
  ·exact(h2.down x).bury x
  ·exact h2.down x
 unfold Wd.drain
 by_cases hc:(D.setP r i 0).cnt x=0
 ·rw[if_pos hc];exact h.setP r i 0
 ·rw[if_neg hc]
  refine key _ ?_
  split
  ·exact(h.setP r i 0).lighten x
  ·exact h.setP r i 0
theorem fe.step(h:fe k D)(S:San D):fe k D.step:=by
 cases hg:D.grave with
 |nil=>rw[show D.step=D by unfold Wd.step;rw[hg]];exact h
 |cons g rest=>
  obtain⟨t,htl,_,hf,hd,d,es⟩:=S.head hg
  rw[es]
  unfold Wd.work
  split
  ·exact(h.drain _ _ _).keep _ _ (fun _=>Int.le_refl _) (fun _=>Int.le_refl _)
  ·split
   ·have h1:fe k (D.upd (g:Int) (fun s=>{s with lv:=s.lv.set (t.mr.leaves-1).toNat (-1),mr:={s.mr with leaves:=t.mr.leaves-1}})):=h.upd _ _ (Nat.le_refl _) (fun _=>⟨rfl,rfl⟩) (fun u hu=>h _ u hu)
    exact h1.ts (cut_mark _ _ _ _)
   ·intro q s hs
    have hlive:({({D with grave:=rest}:Wd).endAt (g:Int) t.h with pending:=D.pending-1}:Wd).live=D.live.filter (fun s=>s.h !=t.h):=live_upd_end (g:=fun s=>{s with ended:=true}) (fun _=>rfl) S.nd hf
    obtain⟨hl,e⟩:=find_live hs
    rw[hlive] at hl
    have hl2:=(List.mem_filter.1 hl).1
    have:=S.findIt hl2
    rw[e] at this
    exact h q s this
theorem fe.put(h:fe k D)(r:Int)(i:Nat)(x y:Int):fe (k+1) (D.put r i x y):=by
 have h1:fe (k+1) (D.putS r i x):=by
  unfold Wd.putS
  split
  ·exact(h.setP r i x).mono (Nat.le_succ k)
  ·exact(h.more x).setP r i x
 unfold Wd.put Wd.putY
 split
 ·exact(h1.touch y).less y
 ·exact h1
def OZ(N k:Nat)(l:List Nat):Prop:=l.length≤k∧∀h,h∈l→h<N
theorem Cn(x:Int):(D.touch x).ts.map Th.h=D.ts.map Th.h:=by
 rcases touch_ts (D:=D) x with h|h
 ·rw[h]
 ·rw[h];exact mark_hd x _
theorem more_hd(x:Int):(D.more x).ts.map Th.h=D.ts.map Th.h:=(Cn x).trans (mark_hd x _)
theorem less_hd(x:Int):(D.less x).ts.map Th.h=D.ts.map Th.h:=(inter_hd (D:=(D.down x).sus) x).trans (show(D.down x).sus.ts.map Th.h=D.ts.map Th.h from mark_hd (D:=D) x (fun m=>{m with refs:=m.refs-1}))
theorem Og(r:Int)(i:Nat)(x y:Int):(D.put r i x y).ts.map Th.h=D.ts.map Th.h:=by
 have h1:(D.putS r i x).ts.map Th.h=D.ts.map Th.h:=by
  unfold Wd.putS
  split
  ·exact setP_hd r i x
  ·exact(setP_hd (D:=D.more x) r i x).trans (more_hd x)
 unfold Wd.put Wd.putY
 split
 ·exact(less_hd y).trans ((Cn y).trans h1)
 ·exact h1
structure PInv (c:Cf) (k:Nat) (D:Wd):Prop where
 san:San D
 bd:fe k D
 hd:OZ c.N k (D.ts.map Th.h)
theorem PInv.new(c:Cf){v:Nat}(hv:16≤v):PInv c 0 (Wd.new c.N v):=⟨San.new c.N hv,fun q t hf=>by simp[Wd.find,Wd.new,findL] at hf,by simp[Wd.new,OZ]⟩
theorem OZ.mono{l:List Nat}(h:OZ N k l)(hk:k≤K):OZ N K l:=⟨Nat.le_trans h.1 hk,h.2⟩
theorem PInv.mono(I:PInv c k D)(hk:k≤K):PInv c K D:=⟨I.san,I.bd.mono hk,I.hd.mono hk⟩
theorem PInv.up(I:PInv c k D):PInv c (k+1) D:=I.mono (Nat.le_succ k)
theorem PInv.to(I:PInv c k D)(S:San D')(B:fe (k+1) D')(e:D'.ts.map Th.h=D.ts.map Th.h):PInv c (k+1) D':=⟨S,B,by rw[e];exact I.hd.mono (Nat.le_succ k)⟩
theorem PInv.step(I:PInv c k D):PInv c k D.step:=⟨I.san.step,I.bd.step I.san,by rw[step_hd];exact I.hd⟩
theorem PInv.eY(I:PInv c k D):∀n,PInv c k (D.eY n):=fun n=>by
 induction n generalizing D with
 |zero=>exact I
 |succ n ih=>
  unfold Wd.eY
  split
  ·exact I
  ·split
   ·exact I.step
   ·exact ih I.step
theorem PInv.kK(I:PInv c k D)(r:Int):PInv c (k+1) (D.kK r):=by
 unfold Wd.kK
 split
 ·exact I.to (I.san.less r) ((I.bd.less r).mono (Nat.le_succ k)) (less_hd r)
 ·exact I.up
def Wd.mq(D:Wd)(r:Int):Wd:=if D.aliveB r then D.more r else D
theorem PInv.mq(I:PInv c k D)(r:Int):PInv c (k+1) (D.mq r):=by
 unfold Wd.mq
 split
 ·exact I.to (I.san.more r) (I.bd.more r) (more_hd r)
 ·exact I.up
theorem PInv.put(I:PInv c k D)(hf:D.find r=some t)(hd:t.mr.dead=false)(i:Nat)(x y:Int):PInv c (k+1) (D.put r i x y):=
 I.to (I.san.QB hf hd) (I.bd.put r i x y) (Og r i x y)
theorem PInv.turn(I:PInv c k D):PInv c (k+1) D.turn:=I.to (I.san.same_but rfl rfl rfl rfl (fun b hb=>.inl hb)) ((I.bd.mono (Nat.le_succ k)).ts rfl) rfl
theorem PInv.mW(I:PInv c k D)(i:Int):PInv c (k+1) (D.mW i):=by
 unfold Wd.mW
 split
 ·exact I.to (I.san.same_but rfl rfl rfl rfl (fun b hb=>.inl hb)) ((I.bd.mono (Nat.le_succ k)).ts rfl) rfl
 ·exact I.up
theorem PInv.deepen(I:PInv c k D)(r:Int):PInv c (k+1) (D.deepen r):=by
 refine I.to (I.san.mark r (fun _=>rfl) (fun _=>rfl) (fun _=>rfl)) (I.bd.mark r _ (Nat.le_succ k) (fun t ht=> ?_)) (mark_hd r _)
 have h1:=I.bd r t ht
 refine⟨by show t.mr.refs≤_;omega,?_⟩
 show D.shd r+1≤_
 unfold Wd.shd
 rw[ht]
 show(if t.mr.shade=D.parity then t.mr.shadow else 0)+1≤_
 split<;>omega
theorem PInv.done(I:PInv c k D)(r:Int):PInv c (k+1) (D.done r):=
 I.to (I.san.mark r (fun _=>rfl) (fun _=>rfl) (fun _=>rfl)) ((I.bd.keep r (fun m=>{m with count:=D.parity}) (fun _=>Int.le_refl _) (fun _=>Int.le_refl _)).mono (Nat.le_succ k)) (mark_hd r _)
theorem xz:∀{l1 l2:List Th} {q:Int} {s:Th},findL q (l1++l2)=some s→findL q l1=some s∨findL q l2=some s
 |[],l2,q,s,h=>.inr h
 |u::l,l2,q,s,h=>by
  have e0:findL q ((u::l)++l2)=if u.at q then some u else findL q (l++l2):=rfl
  have e1:findL q (u::l)=if u.at q then some u else findL q l:=rfl
  rw[e0] at h
  rw[e1]
  by_cases e:u.at q=true
  ·rw[if_pos e] at h ⊢;exact .inl h
  ·rw[if_neg e] at h ⊢;exact xz h
theorem PInv.born(I:PInv c k D)(B:BornOk D x y c.N):PInv c (k+1) (D.born x y):=by
 refine⟨B.QF I.san,?_,?_⟩
 ·unfold Wd.born
  split
  ·rename_i hE
   have h1:fe k (D.mkD x y):=by
    unfold Wd.mkD
    rw[if_pos hE]
    intro q s hs
    have hs:findL q (D.ts++[_])=some s:=hs
    rcases xz hs with h|h
    ·exact I.bd q s h
    ·have:s=⟨D.mkB,ints (D.clean.tail.take (D.mkN x y)),zer x.toNat,zer y.toNat,false,Mrk.new⟩:=by
      unfold findL at h
      split at h
      ·exact(Option.some.inj h).symm
      ·simp[findL] at h
     subst this
     show(0:Int)≤_∧(0:Int)≤_
     omega
   exact(h1.mark _ _ (Nat.le_refl _) (fun t ht=>⟨(h1 _ t ht).1,by show(0:Int)≤_;omega⟩)).more _
  ·exact I.bd.mono (Nat.le_succ k)
 ·unfold Wd.born
  split
  ·rename_i hE
   have e1:(((D.mkD x y).dye (D.mkR x y)).more (D.mkR x y)).ts.map Th.h=(D.mkD x y).ts.map Th.h:=(more_hd _).trans (mark_hd _ _)
   have e2:(D.mkD x y).ts.map Th.h=D.ts.map Th.h++[D.mkB]:=by unfold Wd.mkD;rw[if_pos hE];show(D.ts++[_]).map Th.h=_;rw[List.map_append];rfl
   rw[e1,e2]
   refine⟨by rw[List.length_append];have:=I.hd.1;simp at *;omega,fun h hh=> ?_⟩
   rcases List.mem_append.1 hh with hh|hh
   ·exact I.hd.2 h hh
   ·rw[List.mem_singleton.1 hh];exact B.lt hE
  ·exact I.hd.mono (Nat.le_succ k)
end
section
variable {w wr w':World} {p:Pl} {q lo m k n:Nat} {c:Cf} {D D2 D':Wd} {t u:Th} {r i x y sp sd:Int}
def FP(w:World)(p:Pl)(q lo:Nat)(c:Cf)(D':Wd)(e:Ending)(w':World):Prop:=e=.returned (.bool true)∧kY w p q lo c D' D' w'
theorem qN(b:Bool):(b==b)=true:=by cases b<;>rfl
end
section
variable {w wr w':World} {p:Pl} {q lo m k n:Nat} {c:Cf} {D D2 D':Wd} {t u:Th} {r i x y sp sd:Int} {zs:List Int}
theorem Ld.does{f:FuncId}{args:List Value}{B:Nat}{v:Value}(h:Ld w p c D m wr)(ha:Does c D f args B D' v):
  Calls Tryz.prog f (List.toArray (.pointer (some ⟨p.a,0,none⟩)::args)) wr fun e w'=>e=.returned v∧(∃d,d≤B∧Ld w p c D' (m+d) w')∧Touch (inG p) wr w':=by
 obtain⟨zs,hG,hR,hp,hB⟩:=h
 obtain⟨zs',⟨d,hd,H⟩,hR'⟩:=ha zs hG.wz hR
 refine(H p m wr hG).mono ?_
 rintro e w' ⟨rfl,hG',hT⟩
 exact⟨rfl,⟨d,hd,⟨zs',hG',hR',hp,hB.trans (hT.below hp hB.size)⟩⟩,hT⟩
theorem Ld.QE(h:Ld w p c D m wr):RSt w p c D wr:=by
 obtain⟨zs,h1,h2,h3,h4⟩:=h
 exact⟨zs,m,h1,h2,h3,h4⟩
def Wd.QM(D:Wd)(x y:Int):Nat:=if D.mkE x y=0 then 1+D.mkN x y else 0
set_option maxHeartbeats 2000000 in
theorem JB(c:Cf)(D:Wd)(x y:Int){wr w:World}{p:Pl}(h:Ld w p c D m wr):
  Calls Tryz.prog 41 #[.pointer (some ⟨p.a,0,none⟩),.int .i64 x,.int .i64 y] wr fun e w'=>e=.returned (.tuple #[.int .i64 (D.mkR x y),.int .i64 (D.mkE x y)])∧((∃d,d≤128+2*c.W*D.QM x y∧Ld w p c (D.born x y) (m+d) w')∧BornOk D x y c.N)∧Touch (inG p) wr w':=by
 have HM:=hid (Gu D x y h)
 clear h
 unfold Wd.QM
 by_cases hE:D.mkE x y=0
 ·have hD:D.born x y=((D.mkD x y).dye (D.mkR x y)).more (D.mkR x y):=by unfold Wd.born;rw[if_pos hE]
  have HE:=hid hE
  rw[hE] at HM
  rw[if_pos rfl] at HM
  rw[hE,hD,if_pos rfl]
  clear hE hD
  go_enter Tryz.func41,Tryz.ntmps41
  go_wp2_with fail
  refine HM.out.mono ?_
  rintro e w1 ⟨rfl,⟨d1,hd1,h1⟩,hT⟩
  have HBk:=hid h1.QE.yA
  have HS1:=hid h1
  have HT1:=hid hT
  have Hd1:=hid hd1
  obtain⟨t,hf,eh,em⟩:=HBk.out.new HE.out
  have h64:In64 (D.mkR x y):=by
   obtain⟨zs,m,hG,hR,_⟩:=h1.QE
   exact gJ hG.may hR hf
  obtain⟨mm,hf2,_,em2⟩:=uh (D.mkR x y) hf (D.mkR x y)
  have HDy:=hid ((tintFns.dye c (D.mkD x y) (D.mkR x y) h64).as (vb (show((D.mkD x y).find (D.mkR x y)).isSome=true by rw[hf];rfl)) rfl)
  have HMo:=hid (yN (c:=c) hf2 (by show mm.refs<_;rw[em2,em];decide))
  clear h1 hT hf hf2 hd1
  go_wp2_with fail
  refine(HS1.out.does HDy.out).mono ?_
  rintro e w2 ⟨rfl,⟨d2,hd2,h2⟩,hT2⟩
  have HS2:=hid h2
  have Hd2:=hid hd2
  have HT2:=hid (HT1.out.trans hT2)
  clear h2 hT2 hd2
  go_wp2_with fail
  refine(HS2.out.does HMo.out).mono ?_
  rintro e w3 ⟨rfl,⟨d3,hd3,h3⟩,hT3⟩
  have HS3:=hid h3
  have Hd3:=hid hd3
  have HT3:=hid (HT2.out.trans hT3)
  clear h3 hT3 hd3
  go_wp2_with fail
  go_ret2
  refine⟨rfl,⟨⟨d1+d2+d3,?_,?_⟩,HBk.out⟩,HT3.out⟩
  ·have:=Hd1.out
   have:=Hd2.out
   have:=Hd3.out
   omega
  ·have:=HS3.out
   rw[show m+d1+d2+d3=m+(d1+d2+d3) by omega] at this
   exact this
 ·have hD:D.born x y=D.mkD x y:=by unfold Wd.born Wd.mkD;rw[if_neg hE,if_neg hE]
  have hb:(D.mkE x y==0)=false:=aT hE
  have hR0:D.mkR x y=0:=by unfold Wd.mkR;rw[if_neg hE]
  have HE:=hid hE
  rw[if_neg hE] at HM
  rw[hD,if_neg hE]
  rw[hR0] at HM ⊢
  clear hE hD hR0
  generalize hEe:D.mkE x y=E at*
  have HEe:=hid hEe
  clear hEe
  go_enter Tryz.func41,Tryz.ntmps41
  go_wp2_with fail
  refine HM.out.mono ?_
  rintro e w1 ⟨rfl,⟨d1,hd1,h1⟩,hT⟩
  have HBk:=hid h1.QE.yA
  have HS1:=hid h1
  have HT1:=hid hT
  have Hd1:=hid hd1
  clear h1 hT hd1
  go_wp2_with fail
  go_ret2
  exact⟨rfl,⟨⟨d1,by have:=Hd1.out;omega,HS1.out⟩,HBk.out⟩,HT1.out⟩
end
section
variable {w wr w':World} {p:Pl} {q lo m k n:Nat} {c:Cf} {D D2 D':Wd} {t u:Th} {r i x y sp sd:Int}
theorem ah.Qw{a:WA}{lab:Nat→Nat}(h:ah wr lo lab a D):∀(i:Nat) (t:Th) (x:TA),D.ts[i]? =some t→a.tas[i]? =some x→0<t.pt.length→∀g,x.pa=some ⟨g,0,none⟩→g<wr.heap.size:=fun i t x ht hx h0 g hg=>((h.h.th i t x ht hx).lpa h0 g 0 hg).2.1
theorem ah.Pz{a:WA}{lab:Nat→Nat}(h:ah wr lo lab a D):¬XW lo wr.heap.size a wr.heap.size:=fun hx=>by
 rcases hx with hx|⟨xx,hm,hx⟩
 ·have:=h.wb.lt;omega
 ·obtain⟨ii,hii⟩:=List.mem_iff_getElem?.1 hm
  have hl:=(List.getElem?_eq_some_iff.1 hii).1
  rw[h.h.len] at hl
  rcases hx with hx|⟨_,hx,_⟩
  ·have:=(h.mb ii _ xx (List.getElem?_eq_getElem hl) hii).1.lt;omega
  ·omega
theorem ah.Px{a:WA}{lab:Nat→Nat}(h:ah wr lo lab a D){Bd b:Nat}(hx:XW lo Bd a b):lo≤b:=by
 rcases hx with hx|⟨xx,hm,hx⟩
 ·rw[hx];exact h.lq.1
 ·obtain⟨ii,hii⟩:=List.mem_iff_getElem?.1 hm
  have hl:=(List.getElem?_eq_some_iff.1 hii).1
  rw[h.h.len] at hl
  rcases hx with hx|⟨_,_,hx⟩
  ·rw[hx];exact(h.mb ii _ xx (List.getElem?_eq_getElem hl) hii).2.1
  ·exact hx
theorem kX.next(h:kX w p q lo c D D2 m wr)(k1:aV w' lo q D')(k3:Touch (fun b=>lo≤b) wr w'):kX w p q lo c D D' m w':=by
 obtain⟨⟨zs,hG,hR,hp,hB⟩,h5,h6,h7⟩:=h
 exact⟨⟨zs,hG.touch k3 (fun i hi hx=>h6 i hx hi),hR,hp,hB.trans (k3.below (fun i hi=>Nat.le_trans h7 hi) hB.size)⟩,k1,h6,h7⟩
end
section
variable {w wr w':World} {p:Pl} {q lo m k n:Nat} {c:Cf} {D D2 D':Wd} {t u:Th} {r i x y sp sd:Int}
theorem aV.QJ{P:Prop}(h:aV wr lo q D)(H:∀lab a,WA.q a=q→ah wr lo lab a D→P):P:=by
 obtain⟨lab,a,e,hw⟩:=h
 exact H lab a e hw
theorem Kb(hs:Sit c D)(I:PInv c k D)(hN:c.N≤1000)(hk:k≤1000)(hr:In64 r)(hx:In64 x)(i:Int):
  ∃B D' v,B≤192∧Does c D 43 [.int .i64 r,.int .i64 i,.int .i64 x] B D' (.int .i64 v)∧(∀Bd wz lab a,WA.q a=q→ah wz lo lab a D→(∀(i:Nat) (t:Th) (x:TA),D.ts[i]? =some t→a.tas[i]? =some x→0<t.pt.length→∀g,x.pa=some ⟨g,0,none⟩→g<Bd)→Calls Tryz.prog 70 #[.pointer (some ⟨q,0,none⟩),.int .i64 r,.int .i64 i,.int .i64 x] wz (jo Bd wz lo a D' (.int .i64 v)))∧PInv c (k+1) D':=by
 have B:=hs.wb hN
 have hl:=hs.lens
 cases ha:D.aliveB r with
 |false=>exact⟨_,D,_,by omega,ld_Put_dead hr ha i x,fun Bd wz lab a e hw _=>by subst e;exact CO hw ha i x,I.up⟩
 |true=>
  obtain⟨t,hf,hd⟩:=aliveB_yes ha
  have z:=hs.Lg (find_live hf).1
  by_cases hi:0≤i∧i<(t.pt.length:Int)
  ·obtain⟨j,rfl⟩:=Int.eq_ofNat_of_zero_le hi.1
   have hj:j<t.pt.length:=by have:=hi.2;omega
   have hsh:=hs.Mi hf hd (k:=j) (by omega)
   by_cases hx0:x=0
   ·subst hx0
    refine⟨_,_,_,by omega,ld_Put I.san hf hd hj (.inl rfl) B.p0 B.p1,fun Bd wz lab a e hw hpb=> ?_,I.put hf hd j 0 _⟩
    subst e
    by_cases hy:0<(D.putS r j 0).cnt (nth t.pt j)
    ·exact KR hw hpb B (by omega) hf hd z hj hsh hy
    ·exact KQ hw hpb B (by omega) hf hd z hj hsh hy
   ·cases hxa:D.aliveB x with
    |false=>exact⟨_,D,_,by omega,ld_Put_arg I.san hf hd hj hx0 hx hxa,fun Bd wz lab a e hw _=>by subst e;exact EC hw hf hd z hj hsh hx0 hxa,I.up⟩
    |true=>
     obtain⟨u,hu,hud⟩:=aliveB_yes hxa
     have hub:u.mr.refs<4294967295:=by have:=(I.bd x u hu).1;omega
     refine⟨_,_,_,by omega,ld_Put I.san hf hd hj (.inr ⟨u,hu,hud,hub⟩) B.p0 B.p1,fun Bd wz lab a e hw hpb=> ?_,I.put hf hd j x _⟩
     subst e
     by_cases hy:0<(D.putS r j x).cnt (nth t.pt j)
     ·exact KT hw hpb B (by omega) hf hd z hj hsh hx0 ⟨u,hu,hud,hub⟩ hy
     ·exact KS hw hpb B (by omega) hf hd z hj hsh hx0 ⟨u,hu,hud,hub⟩ hy
  ·exact⟨_,D,_,by omega,ld_Put_wrong hf hd hi x,fun Bd wz lab a e hw _=>by subst e;exact zJ hw hf hd hi x,I.up⟩
theorem Dz{zs zs1:List Int}{d1:Nat}{r:Int}(C1:Run c 159 [.int .i64 r] zs d1 zs1 (.tuple #[.int .i64 0,.bool false])):Run c 104 [.int .i64 r] zs d1 zs1 (.bool false):=fun p m w hG=>by
 have HG:=hid hG
 have HC1:=hid C1
 clear hG C1
 go_enter Tryz.func104,Tryz.ntmps104
 go_wp2_with fail
 refine(HC1.out p _ _ HG.out).mono ?_
 rintro e wm1 ⟨rfl,hG,hT⟩
 have HG1:=hid hG
 have HT1:=hid hT
 clear hG hT
 go_wp2_with fail
 go_ret
 exact⟨rfl,HG1.out,HT1.out⟩
theorem AP(hf:D.find r=some t)(hd:t.mr.dead=false)(h0:t.mr.refs=0):Does c D 45 [.int .i64 r] 22 D (.bool false):=fun zs hz R=>by
 have hr:=gJ hz.may R hf
 obtain⟨zs1,⟨d1,hd1,C1⟩,R1,hz1⟩:=(gN (c:=c) (D:=D) hr).at hz R
 rw[aM hf,hd] at C1
 obtain⟨htl,e⟩:=find_live hf
 obtain⟨d2,hd2,C2⟩:=pO.down_zero c zs1 D.clean D.obs t.ob hz1 R1.heap (R1.bg htl) (by have e3:nth zs1 (adr c t.ob.h 3)=t.mr.refs:=(R1.own t htl).w3;rw[e3,h0])
 have e':((t.ob.h:Nat):Int)+1=r:=e
 rw[e'] at C2
 exact⟨zs1,⟨d1+d2,by omega,JD C1 (Dz C2)⟩,R1⟩
theorem JA(hs:Sit c D)(I:PInv c k D)(hN:c.N≤1000)(hr:In64 r):
  ∃B,B≤96∧Does c D 45 [.int .i64 r] B (D.kK r) (.bool (D.nz r))∧(∀wz,aV wz lo q D→Calls Tryz.prog 71 #[.pointer (some ⟨q,0,none⟩),.int .i64 r] wz (cZ wz lo q (D.kK r) (.bool (D.nz r))))∧PInv c (k+1) (D.kK r):=by
 have B:=hs.wb hN
 have HW:∀wz,aV wz lo q D→Calls Tryz.prog 71 #[.pointer (some ⟨q,0,none⟩),.int .i64 r] wz (cZ wz lo q (D.kK r) (.bool (D.nz r))):=fun wz h=>h.QJ fun lab a e hw=>by subst e;exact Qd hw B r
 cases ha:D.aliveB r with
 |false=>
  have e1:D.nz r=false:=by unfold Wd.nz;rw[ha];rfl
  have e2:D.kK r=D:=by unfold Wd.kK;rw[e1];rfl
  refine⟨14,by omega,?_,HW,I.kK r⟩
  rw[e1,e2]
  exact Gm hr ha
 |true=>
  obtain⟨t,hf,hd⟩:=aliveB_yes ha
  have hc:D.cnt r=t.mr.refs:=by unfold Wd.cnt;rw[hf]
  by_cases h0:t.mr.refs=0
  ·have e1:D.nz r=false:=by unfold Wd.nz;rw[hc];simp[h0]
   have e2:D.kK r=D:=by unfold Wd.kK;rw[e1];rfl
   refine⟨22,by omega,?_,HW,I.kK r⟩
   rw[e1,e2]
   exact AP hf hd h0
  ·have e1:D.nz r=true:=by unfold Wd.nz;rw[ha,hc];simp[h0]
   have e2:D.kK r=D.less r:=by unfold Wd.kK;rw[e1];rfl
   refine⟨60,by omega,?_,HW,I.kK r⟩
   rw[e1,e2]
   exact ld_Let hf hd h0 B.p0 B.p1
theorem Gi(hs:Sit c D)(I:PInv c k D)(hN:c.N≤1000)(hk:k≤1000)(hr:In64 r):
  ∃B,B≤64∧Does c D 44 [.int .i64 r] B (D.mq r) (.bool (D.aliveB r))∧(∀wz,aV wz lo q D→Calls Tryz.prog 72 #[.pointer (some ⟨q,0,none⟩),.int .i64 r] wz (cZ wz lo q (D.mq r) (.bool (D.aliveB r))))∧PInv c (k+1) (D.mq r):=by
 have B:=hs.wb hN
 cases ha:D.aliveB r with
 |false=>
  have e2:D.mq r=D:=by unfold Wd.mq;rw[ha];rfl
  refine⟨14,by omega,?_,fun wz h=>h.QJ fun lab a e hw=> ?_,I.mq r⟩
  ·rw[e2];exact ld_Hold_no hr ha
  ·subst e;rw[e2];exact(Ij hw ha).mono fun e w' h=>h.toW
 |true=>
  obtain⟨t,hf,hd⟩:=aliveB_yes ha
  have e2:D.mq r=D.more r:=by unfold Wd.mq;rw[ha];rfl
  have hb:t.mr.refs<4294967295:=by have:=(I.bd r t hf).1;omega
  refine⟨36,by omega,?_,fun wz h=>h.QJ fun lab a e hw=> ?_,I.mq r⟩
  ·rw[e2];exact ld_Hold hf hd hb
  ·subst e;rw[e2];exact(OO hw hf hd (B.rf r t hf).1 hb B.rl).mono fun e w' h=>h.toW
theorem PInv.lq(hs:Sit c D)(I:PInv c k D)(hN:c.N≤1000)(hW:c.W≤18)(hk:k≤1000):Pg D:=by
 have hl:=hs.lens
 have h1:=I.hd.1
 rw[List.length_map] at h1
 refine⟨⟨by omega,by omega,fun t ht=>by have:=I.hd.2 t.h (List.mem_map.2 ⟨t,ht,rfl⟩);omega⟩,by omega,by omega,I.san,fun t ht=> ?_⟩
 have z:=hs.Lg ht
 have hf:=z.f
 rw[hs.wd.1] at hf
 have hw:=hs.wd.2.w
 have hm:au (c.W:Int)≤10*17:=by
  show((c.W:Int)-8)*((c.W:Int)-1)≤_
  exact Int.mul_le_mul (by omega) (by omega) (by omega) (by omega)
 exact⟨z,by omega,by omega⟩
theorem aV.c8(h:aV wr lo q D):wr.cell? ⟨q,8,none⟩=some (.int .i64 D.suspect):=by
 obtain⟨lab,a,rfl,k⟩:=h
 exact ah.c8 k
theorem lact_of{w:World}{a:Option Addr}{rs:List (List Fld)}(hr:Recs w a [.int .u8,.int .i64,.int .i64,.int .i64,.int .i64,.int .i64] rs){k:Nat}(hk:k<rs.length):
  ∃(b off:Nat) (kd r i x sp sd:Int),a=some ⟨b,off,none⟩∧b<w.heap.size∧w.cell? ⟨b,off+k*6,none⟩=some (.int .u8 kd)∧w.cell? ⟨b,off+k*6+1,none⟩=some (.int .i64 r)∧w.cell? ⟨b,off+k*6+2,none⟩=some (.int .i64 i)∧w.cell? ⟨b,off+k*6+3,none⟩=some (.int .i64 x)∧w.cell? ⟨b,off+k*6+4,none⟩=some (.int .i64 sp)∧w.cell? ⟨b,off+k*6+5,none⟩=some (.int .i64 sd)∧0≤kd∧In64 r∧In64 x:=by
 obtain⟨h1,b,off,ha,hb,hc⟩:=hr k rs[k] (by simp[hk])
 generalize rs[k]=r at h1 hc
 have hl:r.length=6:=by have:=congrArg List.length h1;simpa using this
 match r,hl with
 |[f0,f1,f2,f3,f4,f5],_=>
  simp at h1
  obtain⟨k0,k1,k2,k3,k4,k5⟩:=h1
  have c0:=hc 0 f0 rfl
  have c1:=hc 1 f1 rfl
  have c2:=hc 2 f2 rfl
  have c3:=hc 3 f3 rfl
  have c4:=hc 4 f4 rfl
  have c5:=hc 5 f5 rfl
  cases f0<;>simp[Fld.kd] at k0
  cases f1<;>simp[Fld.kd] at k1
  cases f2<;>simp[Fld.kd] at k2
  cases f3<;>simp[Fld.kd] at k3
  cases f4<;>simp[Fld.kd] at k4
  cases f5<;>simp[Fld.kd] at k5
  subst k0 k1 k2 k3 k4 k5
  refine⟨b,off,_,_,_,_,_,_,ha,hb,by simpa[Fld.val] using c0.1,by simpa[Fld.val] using c1.1,by simpa[Fld.val] using c2.1,by simpa[Fld.val] using c3.1,by simpa[Fld.val] using c4.1,by simpa[Fld.val] using c5.1,?_,?_,?_⟩
  ·have:=c0.2
   simp[Fld.ok,Lit.wf,IntKind.min,IntKind.max,IntKind.bits,IntKind.signed] at this
   omega
  ·have:=c1.2
   simp[Fld.ok,Lit.wf,IntKind.min,IntKind.max,IntKind.bits,IntKind.signed] at this
   unfold In64
   omega
  ·have:=c3.2
   simp[Fld.ok,Lit.wf,IntKind.min,IntKind.max,IntKind.bits,IntKind.signed] at this
   unfold In64
   omega
end
end Go.Proofs.YtbhhfnlkpieebaaGreat.Pk
