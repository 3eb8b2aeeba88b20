/-
  Texts laid together: ReapOut, ReapDo, ReapLaw, ReapOnceF, ReapLv, ReapPot.
-/
import Derived.Test.YtjmifnljckmimaaGreatFloodDoEtc
import Derived.Test.YtjmifnljckmimaaGreatFloodFnEtc
import Derived.Test.YtjmifnljckmimaaGreatRefSeeEtc
import Derived.Test.YtjmifnljckmimaaGreatObjFn4Etc
import Derived.Test.YtjmifnljckmimaaGreatChainsEtc
import Derived.Test.YtjmifnljckmimaaGreatTameEtc
namespace Go.Proofs.YtjmifnljckmimaaGreat.Pk
open Lib (hid)
open Go.RowKit
set_option linter.unusedVariables false
set_option linter.unusedSimpArgs false
set_option maxRecDepth 100000
def QI(t:Th)(w:World)(e:Ending)(w':World):Prop:=
 ∃a1 c1 a2 c2,e=.returned (.tuple #[.agg #[.slice a1 t.pt.length c1,.slice a2 t.dt.length c2],.bool true])∧Row w' .i64 a1 t.pt∧(t.mr.dead=false→Row w' .u32 a2 t.dt)∧(∀b off,a1=some ⟨b,off,none⟩→w.heap.size≤b)∧(∀b off,a2=some ⟨b,off,none⟩→w.heap.size≤b)∧Below w.heap.size w w'
def HDb(D:Wd)(L:List Int)(k s:Nat)(H:Nat→Value)(wr:World):Prop:=∀j,j<k→∀t,D.find (nth L j)=some t→∃a1 c1 a2 c2,H (2*(nth L j).toNat)=.slice a1 t.pt.length c1∧H (2*(nth L j).toNat+1)=.slice a2 t.dt.length c2∧Row wr .i64 a1 t.pt∧(t.mr.dead=false→Row wr .u32 a2 t.dt)∧(∀b off,a1=some ⟨b,off,none⟩→s≤b)∧∀b off,a2=some ⟨b,off,none⟩→s≤b
section
variable {w w' wr ws:World} {p:Pl} {c:Cf} {N k s:Nat} {D:Wd} {L:List Int} {t:Th} {x:Int} {H H':Nat→Value} {zs:List Int} {X:Nat→Prop}
theorem Ki(S:San D)(hz:Wz c zs)(R:av c zs D)(htl:t∈D.live)(hd:t.mr.dead=false):fe c zs t.ob=t.dt:=by
 have hW:=hz.may.w
 have hp1:fe c zs t.ob=(List.range t.dt.length).map (fun i=>nth t.dt i):=by
  show(List.range t.dt.length).map (fun i=>fK c zs t.ob (t.pt.length+i))=_
  refine List.map_congr_left (fun i hi=> ?_)
  have h2:i<t.dt.length:=List.mem_range.1 hi
  have hfl:t.tF (t.pt.length+i)=nth t.dt i:=by unfold Th.tF;rw[if_neg (by omega),show t.pt.length+i-t.pt.length=i by omega]
  have hk:=S.ok t htl
  have ef:t.ob.f=t.pt.length+t.dt.length:=rfl
  obtain⟨a,ha⟩:∃a,aS c t.ob (t.pt.length+i)=some a:=by
   by_cases hs:t.ob.f≤c.W-8
   ·exact⟨_,by unfold aS;rw[iE hs];rfl⟩
   ·obtain⟨_,hg⟩:=hk.ql.big (by rw[R.w];omega)
    rw[R.w] at hg
    have hq:(t.pt.length+i)/(c.W-1)<t.lv.length:=by
     rw[Nat.div_lt_iff_lt_mul (by omega)]
     omega
    obtain⟨b,hb⟩:=hk.alive hd _ hq
    exact⟨_,by unfold aS;rw[iY hs (Cy hb)];rfl⟩
  have hv:=R.tF t htl (t.pt.length+i) a (by omega) ha
  unfold fK
  rw[ha]
  show nth zs a=_
  rw[hv,hfl]
 rw[hp1]
 refine List.ext_getElem (by simp) (fun i h1 h2=> ?_)
 rw[List.getElem_map,List.getElem_range]
 unfold nth
 rw[List.getD_eq_getElem?_getD]
 simp[h2]
theorem Gy(S:San D)(hf:D.find x=some t)(h:RSt w p c D wr):Calls Tryz.prog 23 #[.pointer (some ⟨p.a,0,none⟩),.int .i64 x] wr (QI t wr):=by
 refine h.looks (f:=23) (args:=[.int .i64 x]) (Q:=QI t) (fun zs hz R=> ?_)
 obtain⟨htl,e⟩:=find_live hf
 have hl:=objFns.see_yes c zs D.clean D.obs t.ob hz R.heap (R.obMem htl)
 have e':((t.ob.h:Nat):Int)+1=x:=e
 rw[e'] at hl
 have hp:=GR S hz R htl
 have hq:=fun hd=>Ki S hz R htl hd
 intro p m w hG
 refine(hl p m w hG).mono ?_
 rintro e w' ⟨a1,c1,a2,c2,rfl,r1,r2,f1,f2,f12,hb,e1,e2⟩
 rw[hp] at r1
 exact⟨a1,c1,a2,c2,rfl,r1.row,fun hd=>hq hd▸r2.row,f1,f2,hb⟩
theorem nA.ne{j k:Nat}(F:nA L D)(hk:k<L.length)(hj:j<k):nth L j≠nth L k:=by
 have hr:=F.refs
 subst hr
 have hk2:k<D.ts.length:=by unfold Wd.dw at hk;simpa using hk
 have e:∀i,(hi:i<D.ts.length)→nth D.dw i=((D.ts.map Th.h)[i]'(by simpa using hi):Int)+1:=fun i hi=>by
  unfold nth Wd.dw
  rw[List.getD_eq_getElem?_getD]
  simp[hi]
 rw[e j (by omega),e k hk2]
 intro h
 have h2:(D.ts.map Th.h)[j]'(by simp;omega)=(D.ts.map Th.h)[k]'(by simpa using hk2):=by omega
 exact List.pairwise_iff_getElem.1 F.nd j k (by simp;omega) (by simpa using hk2) hj h2
theorem HDb.zero(D:Wd)(L:List Int)(s:Nat)(H:Nat→Value)(wr:World):HDb D L 0 s H wr:=fun j hj=>absurd hj (Nat.not_lt_zero _)
theorem HDb.touch(h:HDb D L k s H wr)(hT:Touch X wr w')(hX:∀b,X b→b<s):HDb D L k s H w':=fun j hj t hf=>by
 obtain⟨a1,c1,a2,c2,e1,e2,r1,r2,f1,f2⟩:=h j hj t hf
 exact⟨a1,c1,a2,c2,e1,e2,r1.touch hT (fun _ b off e hx=>by have:=f1 b off e;have:=hX b hx;omega),fun hd=>(r2 hd).touch hT (fun _ b off e hx=>by have:=f2 b off e;have:=hX b hx;omega),f1,f2⟩
theorem HDb.next(h:HDb D L k s H wr){a1 a2:Option Addr}{c1 c2 J:Nat}{t:Th}(hf:D.find (J:Int)=some t)(hJ:nth L k=(J:Int))(hnd:∀j,j<k→nth L j≠nth L k)(hpos:∀j,j<k→0≤nth L j)
  (hH:H'=fun i=>if i=J*2+1 then Value.slice a2 t.dt.length c2 else if i=J*2 then Value.slice a1 t.pt.length c1 else H i) (r1:Row wr .i64 a1 t.pt) (r2:t.mr.dead=false→Row wr .u32 a2 t.dt) (f1:∀b off,a1=some ⟨b,off,none⟩→s≤b) (f2:∀b off,a2=some ⟨b,off,none⟩→s≤b):HDb D L (k+1) s H' wr:=fun j hj t' hf'=>by
 by_cases e:j=k
 ·subst e
  rw[hJ] at hf' ⊢
  rw[hf] at hf'
  cases hf'
  refine⟨a1,c1,a2,c2,?_,?_,r1,r2,f1,f2⟩
  ·rw[hH]
   show(if 2*((J:Int)).toNat=J*2+1 then _ else _)=_
   rw[if_neg (by omega),if_pos (by omega)]
  ·rw[hH]
   show(if 2*((J:Int)).toNat+1=J*2+1 then _ else _)=_
   rw[if_pos (by omega)]
 ·have hlt:j<k:=by omega
  obtain⟨b1,d1,b2,d2,e1,e2,q1,q2,g1,g2⟩:=h j hlt t' hf'
  have hne:=hnd j hlt
  have hp:=hpos j hlt
  rw[hJ] at hne
  refine⟨b1,d1,b2,d2,?_,?_,q1,q2,g1,g2⟩
  ·rw[hH]
   show(if 2*(nth L j).toNat=J*2+1 then _ else if 2*(nth L j).toNat=J*2 then _ else _)=_
   rw[if_neg (by omega),if_neg (by omega)]
   exact e1
  ·rw[hH]
   show(if 2*(nth L j).toNat+1=J*2+1 then _ else if 2*(nth L j).toNat+1=J*2 then _ else _)=_
   rw[if_neg (by omega),if_neg (by omega)]
   exact e2
theorem IM(n:Nat):madeCells (Value.cells (.agg #[.slice none 0 0,.slice none 0 0])) (n*2)=ek (fun _=>.slice none 0 0) (2*n):=by
 unfold madeCells ek
 have e:∀x:Nat,(Value.cells (.agg #[.slice none 0 0,.slice none 0 0]))[x%(Value.cells (.agg #[.slice none 0 0,.slice none 0 0])).size]! =.slice none 0 0:=by
  intro x
  have:x%2=0∨x%2=1:=by omega
  show(#[Value.slice none 0 0,.slice none 0 0]:Array Value)[x%2]! =_
  rcases this with h|h<;>rw[h]<;>rfl
 simp only[e]
 rw[Nat.mul_comm 2 n]
 apply Array.toList_inj.1
 simp
theorem IP(n:Nat)(hn:n≤2000)(w:World):(Instr.makeSlice 49 (.int .i64 (n:Int)) (.int .i64 (n:Int))).run Tryz.prog w=.ok (.slice (some ⟨w.heap.size,0,none⟩) n n) (w.alloc (.cells (ek (fun _=>.slice none 0 0) (2*n)) 57)):=by
 obtain⟨i0,hi,hz0,hz1,hz2⟩:=info_parts Ni
 have:=run_make w 49 57 i0 (.agg #[.slice none 0 0,.slice none 0 0]) Tryz.underlying49 hi hz0 .i64 .i64 (n:Int) (n:Int) (by omega) (Int.le_refl _) (by rw[hz2];omega) (by omega)
 rw[this,hz1]
 have e:((n:Int)).toNat=n:=by omega
 rw[e,IM n]
end
def OT(w:World)(p:Pl)(c:Cf)(D:Wd)(L:List Int)(ws:World)(e:Ending)(w':World):Prop:=
 ∃a cap fl hq H,e=.returned (.tuple #[.slice a (List.length fl) cap,.slice (some ⟨hq,0,none⟩) (c.N+1) (c.N+1)])∧Row w' .i64 a fl∧fl.length≤L.length∧(∀x,x∈fl→xm D x)∧(∀x,x∈L→xm D x→x∈fl)∧RSt w p c D w'∧Touch (inG p) ws w'∧Blk w' hq (ek H (2*(c.N+1))) 57∧HDb D L L.length ws.heap.size H w'∧ws.heap.size≤hq
theorem HDb.mono{D:Wd}{L:List Int}{k s s':Nat}{H:Nat→Value}{wr:World}(h:HDb D L k s H wr)(hs:s'≤s):HDb D L k s' H wr:=fun j hj t hf=>by
 obtain⟨a1,c1,a2,c2,e1,e2,r1,r2,f1,f2⟩:=h j hj t hf
 exact⟨a1,c1,a2,c2,e1,e2,r1,r2,fun b off e=>Nat.le_trans hs (f1 b off e),fun b off e=>Nat.le_trans hs (f2 b off e)⟩
set_option maxHeartbeats 4000000 in
theorem xH{w ws:World}{p:Pl}{N:Nat}{D:Wd}{L:List Int}{hold:Nat→Nat}(h:RSt w p (cfR N) D ws)(F:nA L D)(Nm:fP hold D)(hN:N≤1000)(a9:Option Addr)(c9:Nat)(hr:Row ws .i64 a9 L)(hX:iW (inG p) a9 L)(hL:L.length≤30):
  Calls Tryz.prog 18 #[.pointer (some ⟨p.a,0,none⟩),.slice a9 L.length c9] ws (OT w p (cfR N) D L ws):=by
 obtain⟨i0,hinf,hz0,hz1,hz2⟩:=info_parts oJ
 have hfc:=bW (N:Int) 16 1 1
 have HS0:=hid h
 have HR:=hid hr
 have HX:=hid hX
 have HF:=hid F
 have HNm:=hid Nm
 have HNB:=hid (fun y=>h.RQ F.san y)
 have hNN:=hN
 clear h hr hX F Nm
 go_enter Tryz.func18,Tryz.ntmps18
 go_wp2_with fail
 refine HS0.out.conf.mono ?_
 rintro e w1 ⟨rfl,hb⟩
 have HB1:=hid hb
 clear hb
 have hmk:=CK (N+1) (by omega) w1
 rw[show((N+1:Nat):Int)=(N:Int)+1 by omega] at hmk
 have hw1:IntKind.i64.wrap ((N:Int)+1)=(N:Int)+1:=IntWalk.i64_in _ (by omega)
 go_wp2_with fail
 have HR0:Hid (Below ws.heap.size ws (w1.alloc (.cells (ek (fun _=>.int .i64 0) (N+1)) 3))∧Blk (w1.alloc (.cells (ek (fun _=>.int .i64 0) (N+1)) 3)) w1.heap.size (ek (fun i=>.int .i64 ((uo D L 0 i:Nat):Int)) (N+1)) 3):=hid ⟨below_step HB1.out (below_new _ _),by
  have e:(fun i:Nat=>Value.int .i64 ((uo D L 0 i:Nat):Int))=fun _=>.int .i64 0:=funext (fun i=>by unfold uo;rw[zl];rfl)
  rw[e]
  exact Blk.new _ _ _⟩
 have HNq:Hid (¬jf p w1.heap.size∧ws.heap.size≤w1.heap.size):=hid ⟨HS0.out.xG HB1.out.size,HB1.out.size⟩
 generalize w1.alloc (.cells (ek (fun _=>.int .i64 0) (N+1)) 3)=w2 at*
 generalize w1.heap.size=q at*
 clear hmk HB1
 refine(HS0.out.later HR0.out.1).conf.mono ?_
 rintro e w3 ⟨rfl,hb⟩
 have HB3:=hid (below_step HR0.out.1 hb)
 have HQ3:=hid (HR0.out.2.later hb)
 clear hb HR0
 have hmk:=IP (N+1) (by omega) w3
 rw[show((N+1:Nat):Int)=(N:Int)+1 by omega] at hmk
 go_wp2_with fail
 have HR0:Hid (Below ws.heap.size ws (w3.alloc (.cells (ek (fun _=>.slice none 0 0) (2*(N+1))) 57))∧Blk (w3.alloc (.cells (ek (fun _=>.slice none 0 0) (2*(N+1))) 57)) q (ek (fun i=>.int .i64 ((uo D L 0 i:Nat):Int)) (N+1)) 3∧Blk (w3.alloc (.cells (ek (fun _=>.slice none 0 0) (2*(N+1))) 57)) w3.heap.size (ek (fun _=>.slice none 0 0) (2*(N+1))) 57):=hid ⟨below_step HB3.out (below_new _ _),HQ3.out.later (below_new _ _),Blk.new _ _ _⟩
 have HNh:Hid (¬jf p w3.heap.size∧ws.heap.size≤w3.heap.size∧q<w3.heap.size):=hid ⟨HS0.out.xG HB3.out.size,HB3.out.size,HQ3.out.lt⟩
 generalize w3.alloc (.cells (ek (fun _=>.slice none 0 0) (2*(N+1))) 57)=w4 at*
 generalize w3.heap.size=hq at*
 clear hmk HB3 HQ3 hfc hw1
 obtain⟨s,hs⟩:∃s,s=w4.heap.size:=⟨_,rfl⟩
 have HSz:Hid (hq<s∧ws.heap.size≤s):=hid (by
  rw[hs]
  exact⟨HR0.out.2.2.lt,HR0.out.1.size⟩)
 go_loopw [29] (fun i wr=>∃(k:Nat) (H:Nat→Value),k≤L.length∧i=.int .i64 (k:Int)∧Below ws.heap.size ws wr∧Blk wr q (ek (fun i=>.int .i64 ((uo D L k i:Nat):Int)) (N+1)) 3∧Blk wr hq (ek H (2*(N+1))) 57∧HDb D L k s H wr∧s≤wr.heap.size) (fun i _=>L.length-(intOf i).toNat)
 case atStart=>exact⟨0,_,Nat.zero_le _,rfl,HR0.out.1,HR0.out.2.1,HR0.out.2.2,HDb.zero _ _ _ _ _,by rw[hs];exact Nat.le_refl _⟩
 case round=>
  obtain⟨k,H,hk,rfl,hb,hq1,hh,hH,hsz⟩:=hrel
  have HB:=hid hb
  have HQ:=hid hq1
  have HH:=hid hh
  have HHd:=hid hH
  have HSw:=hid hsz
  by_cases hlt:k<L.length
  ·obtain⟨b9,o9,rfl,hb9,hc9⟩:=(HR.out.below hb (Nat.le_refl _)) k hlt
   obtain⟨t,hf⟩:=HF.out.find hlt
   obtain⟨J,hJ,hJ1,hJN⟩:=RSt.xJ HS0.out hf
   have hJN:J≤N:=hJN
   have HHn:Hid (∀j,j<k→0≤nth L j):=hid (fun j hj=>by
    obtain⟨u,hu⟩:=HF.out.find (show j<L.length by omega)
    obtain⟨i,hi,_⟩:=RSt.xJ HS0.out hu
    omega)
   have HHu:Hid (∀j,j<k→nth L j≠nth L k):=hid (fun j hj=>HF.out.ne hlt hj)
   have HJe:=hid hJ
   rw[hJ] at hf hc9
   have HFd:=hid hf
   have HSu:=hid (fun i=>Lf (D:=D) hlt (HJe.out▸hf) i)
   have HLe:=hid (fun i=>PH HF.out (show k+1≤L.length by omega) i)
   have HSe:=hid (Gy HF.out.san hf (HS0.out.later hb))
   have hpl:=(HS0.out.sizes) t (find_live hf).1
   have hjl:J<N+1:=by omega
   have hji:(J:Int)<(N:Int)+1:=by omega
   have hj0:(0:Int)≤(J:Int):=by omega
   clear hb hq1 hh hH hsz hf hJ
   go_wp2_with fail
   refine HSe.out.mono ?_
   rintro e w5 ⟨a1,c1,a2,c2,rfl,r1,r2,f1,f2,hb5⟩
   have hbx:=Blk.new w5 #[.slice a1 t.pt.length c1,.slice a2 t.dt.length c2] 57
   have q0:=hbx.cell 0 rfl
   have q1:=hbx.cell 1 rfl
   have hb6:=below_step hb5 (below_new w5 (.cells #[.slice a1 t.pt.length c1,.slice a2 t.dt.length c2] 57))
   have hh6:=HH.out.later hb6
   have g0:=hh6.arr (show J*2<2*(N+1) by omega)
   have g1:=hh6.arr (show J*2+1<2*(N+1) by omega)
   have e0:=hh6.free (J*2)
   have e1:=hh6.free (J*2+1)
   have hlt6:=hh6.lt
   have hz1:w5.heap.size<(w5.alloc (.cells #[.slice a1 t.pt.length c1,.slice a2 t.dt.length c2] 57)).heap.size:=by simp
   have hne6:hq≠w5.heap.size:=by
    have:=HH.out.lt
    have:=hb5.size
    omega
   have T7:Touch (fun b=>b=hq) (w5.alloc (.cells #[.slice a1 t.pt.length c1,.slice a2 t.dt.length c2] 57)) (((w5.alloc (.cells #[.slice a1 t.pt.length c1,.slice a2 t.dt.length c2] 57)).setCell ⟨hq,J*2,none⟩ (.slice a1 t.pt.length c1)).setCell ⟨hq,J*2+1,none⟩ (.slice a2 t.dt.length c2)):=((Touch.refl (fun b=>b=hq) _).setCell (p:=⟨hq,J*2,none⟩) (fun _=>rfl) _).setCell (p:=⟨hq,J*2+1,none⟩) (fun _=>rfl) _
   have hqs:=HQ.out.lt
   have hnq:=HNh.out.2.2
   have hsw:=HSw.out
   have hhs:=HSz.out.1
   have hs5:=hb5.size
   have r1':=r1.later (below_new w5 (.cells #[.slice a1 t.pt.length c1,.slice a2 t.dt.length c2] 57))
   have r2':=fun hd=>(r2 hd).later (below_new w5 (.cells #[.slice a1 t.pt.length c1,.slice a2 t.dt.length c2] 57))
   have HF1:Hid (∀b off,a1=some ⟨b,off,none⟩→s≤b):=hid (fun b off e=>by have:=f1 b off e;omega)
   have HRp7:Hid (Row (((w5.alloc (.cells #[.slice a1 t.pt.length c1,.slice a2 t.dt.length c2] 57)).setCell ⟨hq,J*2,none⟩ (.slice a1 t.pt.length c1)).setCell ⟨hq,J*2+1,none⟩ (.slice a2 t.dt.length c2)) .i64 a1 t.pt):=hid (r1'.touch T7 (fun _ b off e hx=>by have:=f1 b off e;omega))
   have HB7:Hid (Below ws.heap.size ws (((w5.alloc (.cells #[.slice a1 t.pt.length c1,.slice a2 t.dt.length c2] 57)).setCell ⟨hq,J*2,none⟩ (.slice a1 t.pt.length c1)).setCell ⟨hq,J*2+1,none⟩ (.slice a2 t.dt.length c2))):=hid (((HB.out.trans ((hb6.mono (by have:=HB.out.size;omega):Below ws.heap.size wr _))).setCell (p:=⟨hq,J*2,none⟩) HNh.out.2.1 _).setCell (p:=⟨hq,J*2+1,none⟩) HNh.out.2.1 _)
   have HQ7:Hid (Blk (((w5.alloc (.cells #[.slice a1 t.pt.length c1,.slice a2 t.dt.length c2] 57)).setCell ⟨hq,J*2,none⟩ (.slice a1 t.pt.length c1)).setCell ⟨hq,J*2+1,none⟩ (.slice a2 t.dt.length c2)) q (ek (fun i=>.int .i64 ((uo D L k i+dN (i:Int) (t.pt.take 0):Nat):Int)) (N+1)) 3):=hid ((HQ.out.later hb6).touch T7 (by omega))
   have HH7:Hid (Blk (((w5.alloc (.cells #[.slice a1 t.pt.length c1,.slice a2 t.dt.length c2] 57)).setCell ⟨hq,J*2,none⟩ (.slice a1 t.pt.length c1)).setCell ⟨hq,J*2+1,none⟩ (.slice a2 t.dt.length c2)) hq (ek (fun i=>if i=J*2+1 then Value.slice a2 t.dt.length c2 else if i=J*2 then Value.slice a1 t.pt.length c1 else H i) (2*(N+1))) 57):=hid (by
    have h1:=(hh6.set (J*2) (.slice a1 t.pt.length c1)).set (J*2+1) (.slice a2 t.dt.length c2)
    rw[qm,qm] at h1
    exact h1)
   have HD7:Hid (HDb D L (k+1) s (fun i=>if i=J*2+1 then Value.slice a2 t.dt.length c2 else if i=J*2 then Value.slice a1 t.pt.length c1 else H i) (((w5.alloc (.cells #[.slice a1 t.pt.length c1,.slice a2 t.dt.length c2] 57)).setCell ⟨hq,J*2,none⟩ (.slice a1 t.pt.length c1)).setCell ⟨hq,J*2+1,none⟩ (.slice a2 t.dt.length c2))):=hid (((HHd.out.touch (Touch.of_below hb6) (X:=fun _=>False) (fun _ h=>h.elim)).touch T7 (fun b hx=>by omega)).next HFd.out HJe.out HHu.out HHn.out rfl HRp7.out (fun hd=>(r2' hd).touch T7 (fun _ b off e hx=>by have:=f2 b off e;omega)) HF1.out (fun b off e=>by have:=f2 b off e;omega))
   have HS7:Hid (s≤(((w5.alloc (.cells #[.slice a1 t.pt.length c1,.slice a2 t.dt.length c2] 57)).setCell ⟨hq,J*2,none⟩ (.slice a1 t.pt.length c1)).setCell ⟨hq,J*2+1,none⟩ (.slice a2 t.dt.length c2)).heap.size):=hid (by have:=T7.size;omega)
   clear T7 r1 r2 f1 f2 hb5 hb6 hh6 r1' r2' hqs hnq hsw hhs hbx
   go_wp2_with fail
   generalize hw7:(((w5.alloc (.cells #[.slice a1 t.pt.length c1,.slice a2 t.dt.length c2] 57)).setCell ⟨hq,J*2,none⟩ (.slice a1 t.pt.length c1)).setCell ⟨hq,J*2+1,none⟩ (.slice a2 t.dt.length c2))=w7 at*
   clear hw7 q0 q1 g0 g1 e0 e1
   generalize (fun i=>if i=J*2+1 then Value.slice a2 t.dt.length c2 else if i=J*2 then Value.slice a1 t.pt.length c1 else H i)=H' at*
   go_loopw [48] (fun i wr=>∃j:Nat,j≤t.pt.length∧i=.int .i64 (j:Int)∧Touch (fun b=>b=q) w7 wr∧Blk wr q (ek (fun i=>.int .i64 ((uo D L k i+dN (i:Int) (t.pt.take j):Nat):Int)) (N+1)) 3) (fun i _=>t.pt.length-(intOf i).toNat)
   case atStart=>exact⟨0,Nat.zero_le _,rfl,Touch.refl _ _,HQ7.out⟩
   case round=>
    obtain⟨j,hj,rfl,hT,hq⟩:=hrel
    have HT6:=hid hT
    have hrw:=HRp7.out.touch hT (fun _ b off e hx=>by have:=HF1.out b off e;have:=HNh.out.2.2;have:=HSz.out.1;omega)
    by_cases hlt2:j<t.pt.length
    ·obtain⟨bp,op,rfl,hbp,hcp⟩:=hrw j hlt2
     obtain⟨y,hy,hyN⟩:∃y:Nat,nth t.pt j=(y:Int)∧y<N+1:=by
      rcases HNm.out.good t (find_live HFd.out).1 j hlt2 with h0|⟨u,hu,hue⟩
      ·exact⟨0,h0,by omega⟩
      ·obtain⟨y,hy,hy1,hyN⟩:=RSt.xJ HS0.out (HF.out.san.findIt hu)
       exact⟨y,hue.symm.trans hy,by have:(cfR N).N=N:=rfl;omega⟩
     rw[hy] at hcp
     have ci:=hq.arr hyN
     have fi:=hq.free y
     have hqz:=hq.lt
     have hct:∀i:Nat,dN (i:Int) (t.pt.take (j+1))=dN (i:Int) (t.pt.take j)+if i=y then 1 else 0:=fun i=>by
      rw[oD (i:Int) t.pt hlt2,hy]
      congr 1
      by_cases e:i=y
      ·rw[if_pos e,if_pos (by omega)]
      ·rw[if_neg e,if_neg (by omega)]
     have hbd:uo D L k y+dN (y:Int) (t.pt.take j)+1≤100000*1000:=by
      have h1:=HSu.out y
      have h2:=HLe.out y
      have h3:=pz (y:Int) t.pt (j+1)
      have h4:=hct y
      rw[if_pos rfl] at h4
      have h5:=HNB.out (y:Int)
      have h6:100000*(cfR N).N≤100000*1000:=Nat.mul_le_mul_left _ hNN
      omega
     have HQ9:Hid (Blk (wr.setCell ⟨q,y,none⟩ (.int .i64 ((uo D L k y+dN (y:Int) (t.pt.take j)+1:Nat):Int))) q (ek (fun i=>.int .i64 ((uo D L k i+dN (i:Int) (t.pt.take (j+1)):Nat):Int)) (N+1)) 3):=hid (by
      have h1:=hq.set y (.int .i64 ((uo D L k y+dN (y:Int) (t.pt.take j)+1:Nat):Int))
      rw[qm] at h1
      rw[pQ (g:=fun i=>if i=y then Value.int .i64 ((uo D L k y+dN (y:Int) (t.pt.take j)+1:Nat):Int) else .int .i64 ((uo D L k i+dN (i:Int) (t.pt.take j):Nat):Int)) (fun i _=>by
       rw[hct i]
       by_cases e:i=y
       ·rw[if_pos e,if_pos e,e]
        rfl
       ·rw[if_neg e,if_neg e]
        rfl)]
      exact h1)
     have HT7:=hid (hT.setCell (p:=⟨q,y,none⟩) (fun _=>rfl) (.int .i64 ((uo D L k y+dN (y:Int) (t.pt.take j)+1:Nat):Int)))
     clear hT hrw hq hy hct
     obtain⟨M,hM⟩:∃M:Nat,M=uo D L k y+dN (y:Int) (t.pt.take j):=⟨_,rfl⟩
     rw[←hM] at ci hbd HQ9 HT7
     rw[show((M+1:Nat):Int)=(M:Int)+1 by omega] at HQ9 HT7
     have hwM:IntKind.i64.wrap ((M:Int)+1)=(M:Int)+1:=IntWalk.i64_in _ (by omega)
     clear hM hbd
     go_wp2_with fail
     go_roundw
     case rel=>exact⟨j+1,by omega,by go_num,HT7.out,HQ9.out⟩
     case measure=>simp[intOf];omega
    ·obtain rfl:j=t.pt.length:=by omega
     have HQ9:Hid (Blk wr q (ek (fun i=>.int .i64 ((uo D L (k+1) i:Nat):Int)) (N+1)) 3):=hid (by
      rw[pQ (g:=fun i=>.int .i64 ((uo D L k i+dN (i:Int) (t.pt.take t.pt.length):Nat):Int)) (fun i _=>by rw[HSu.out i,List.take_length])]
      exact hq)
     have HBe:=hid (HB7.out.trans (hT.below (B:=ws.heap.size) (fun b hx=>by have:=HNq.out.2;omega) HB7.out.size))
     have HHe:=hid (HH7.out.touch hT (by have:=HNh.out.2.2;omega))
     have HDe:=hid (HD7.out.touch hT (fun b hx=>by have:=HNh.out.2.2;have:=HSz.out.1;omega))
     have HSe:=hid (Nat.le_trans HS7.out hT.size)
     clear hT hrw hq
     go_wp2_with fail
     go_roundw
     case rel=>exact⟨k+1,H',by omega,by go_num,HBe.out,HQ9.out,HHe.out,HDe.out,HSe.out⟩
     case measure=>simp[intOf];omega
  ·obtain rfl:k=L.length:=by omega
   have HO0:Hid (OS w p N D L wr wr q 0 (.slice none 0 0) [] wr):=hid ⟨HS0.out.later hb,Touch.refl _ _,hq1,HNq.out.1,fun i hi=>HS0.out.xG (Nat.le_trans hb.size hi),Nat.le_refl _,World.ownsRow_nil _ _ _ _,hq1.lt,Nat.le_refl _,fun x hx=>absurd hx (List.not_mem_nil),fun j hj=>by omega,Nat.le_refl _⟩
   have HW5:Hid (w.heap.size≤wr.heap.size):=hid (Nat.le_trans HS0.out.below.size hb.size)
   have HR5:=hid (HR.out.below hb (Nat.le_refl _))
   clear hb hq1 hh hH hsz HQ
   generalize hw5:wr=w5 at*
   clear hw5
   go_wp2_with fail
   go_loopw [14,62] (fun tv i wr=>∃(k:Nat) (l:List Int),k≤L.length∧i=.int .i64 (k:Int)∧OS w p N D L w5 w5 q k tv l wr) (fun _ i _=>L.length-(intOf i).toNat)
   case atStart=>exact⟨0,[],Nat.zero_le _,rfl,HO0.out⟩
   case round=>
    obtain⟨k,l,hk,rfl,hO⟩:=hrel
    have HO:=hid hO
    have hll:=hO.len
    by_cases hlt:k<L.length
    ·obtain⟨b9,o9,rfl,hb9,hc9⟩:=(HR5.out.touch hO.tc HX.out) k hlt
     obtain⟨t,hf⟩:=HF.out.find hlt
     obtain⟨J,hJ,hJ1,hJN⟩:=RSt.xJ HS0.out hf
     have hJN:J≤N:=hJN
     have h64:In64 (nth L k):=by rw[hJ];unfold In64;omega
     have hdd:D.dead (nth L k)=t.mr.dead:=by unfold Wd.dead;rw[hf]
     have HI:=hid ((Gw (c:=cfR N) (D:=D) h64).as (vb (show(D.find (nth L k)).isSome=true by rw[hf];rfl)) rfl)
     have KP:=hid hO.Sr
     have HJk:=hid hJ
     cases hd:t.mr.dead with
     |true=>
      have HD:=hid ((tintFns.dead (cfR N) D (nth L k) h64).as (vb (hdd.trans hd)) rfl)
      have HNo:Hid (¬xm D (nth L k)):=hid (fun⟨t2,h1,h2,_⟩=>by
       rw[hf] at h1
       cases h1
       rw[hd] at h2
       cases h2)
      rw[hJ] at HI HD hc9
      clear hO hdd hf hd h64 hJ
      go_wp2_with fail
      refine TX.bB (T:=ny KP.out) [TX.af.is (.pointer (some ⟨p.a,0,none⟩)),TX.af.is (.int .i64 (J:Int)),TX.af.is (.bool true),TX.af.is (.bool true),TX.af.is (.pointer (some ⟨p.a,0,none⟩)),TX.af.is (.int .i64 (J:Int)),TX.af.is (.bool true),TX.af.is (.bool false),TX.af.is (.bool false),TX.af.is (.bool false),TX.af.is undef,TX.af.is undef,TX.af.is undef,TX.af.is undef,TX.af.is undef,TX.af.is undef,TX.af.is undef,TX.af.is undef,TX.af.is (.bool false)] (by kernel_rfl) (by kernel_rfl) rfl (by kernel_rfl) (fun ops K2 hops hK=> ?_)
      refine TX.aa (TX.ae rfl) (fun w' hC hd=>TX.aj _ (.inl rfl) rfl) (by go_frame;rfl) (by simp only[List.nil_append,List.cons_append];rfl) ?_
      refine TX.aa (TX.ae rfl) (fun w' hC hd=>TX.aj _ (.inl rfl) rfl) (by go_frame;rfl) (by simp only[List.nil_append,List.cons_append];rfl) ?_
      refine TX.aa (TX.ae rfl) (fun w' hC hd=>TX.bP 66 (.pointer (some ⟨p.a,0,none⟩)) 67 (.int .i64 (J:Int)) rfl rfl (fun ρ hρ hf e0 e1=>TX.bJ (f:=49) (by go_simp) (kK KP.out HI.out HO.out hC))) (by go_frame;rfl) (by simp only[List.nil_append,List.cons_append];rfl) ?_
      refine TX.aa (TX.ae rfl) (fun w' hC hd=>TX.aj _ (.inl rfl) rfl) (by go_frame;rfl) (by simp only[List.nil_append,List.cons_append];rfl) ?_
      refine TX.aa (TX.aA hops rfl rfl rfl rfl) (fun w' hC hd=>TX.aj _ (.inl rfl) rfl) (by go_frame;rfl) (by simp only[List.nil_append,List.cons_append];rfl) ?_
      refine TX.aa (TX.aA hops rfl rfl rfl rfl) (fun w' hC hd=>TX.aj _ (.inl rfl) rfl) (by go_frame;rfl) (by simp only[List.nil_append,List.cons_append];rfl) ?_
      refine TX.aa (TX.aA hops rfl rfl rfl rfl) (fun w' hC hd=>TX.bP 70 (.pointer (some ⟨p.a,0,none⟩)) 71 (.int .i64 (J:Int)) rfl rfl (fun ρ hρ hf e0 e1=>TX.bJ (f:=50) (by go_simp) (kK KP.out HD.out HO.out hC))) (by go_frame;rfl) (by simp only[List.nil_append,List.cons_append];rfl) ?_
      refine TX.aa (TX.aA hops rfl rfl rfl rfl) (fun w' hC hd=>TX.aD 72 (.bool true) rfl (fun ρ hρ hf e0=>TX.ay (by go_simp))) (by go_frame;rfl) (by simp only[List.nil_append,List.cons_append];rfl) ?_
      refine TX.aa (TX.ae rfl) (fun w' hC hd=>TX.dZ _ _ _ true rfl rfl rfl) (by go_frame;rfl) (by simp only[List.nil_append,List.cons_append];rfl) ?_
      refine TX.aa (TX.ae rfl) (fun w' hC hd=>TX.aj _ (.inl rfl) rfl) (by go_frame;rfl) (by simp only[List.nil_append,List.cons_append];rfl) ?_
      refine TX.aG (TX.dn hops rfl rfl rfl rfl) (by go_frame;rfl) (by simp only[List.nil_append,List.cons_append];rfl) ?_
      refine TX.aG (TX.dn hops rfl rfl rfl rfl) (by go_frame;rfl) (by simp only[List.nil_append,List.cons_append];rfl) ?_
      refine TX.aG (TX.dn hops rfl rfl rfl rfl) (by go_frame;rfl) (by simp only[List.nil_append,List.cons_append];rfl) ?_
      refine TX.aG (TX.dn hops rfl rfl rfl rfl) (by go_frame;rfl) (by simp only[List.nil_append,List.cons_append];rfl) ?_
      refine TX.aG (TX.dn hops rfl rfl rfl rfl) (by go_frame;rfl) (by simp only[List.nil_append,List.cons_append];rfl) ?_
      refine TX.aG (TX.dn hops rfl rfl rfl rfl) (by go_frame;rfl) (by simp only[List.nil_append,List.cons_append];rfl) ?_
      refine TX.aG (TX.dn hops rfl rfl rfl rfl) (by go_frame;rfl) (by simp only[List.nil_append,List.cons_append];rfl) ?_
      refine TX.aG (TX.dn hops rfl rfl rfl rfl) (by go_frame;rfl) (by simp only[List.nil_append,List.cons_append];rfl) ?_
      refine TX.aa (TX.ae rfl) (fun w' hC hd=>TX.dZ _ _ _ false rfl rfl rfl) (by go_frame;rfl) (by simp only[List.nil_append,List.cons_append];rfl) ?_
      refine TX.fJ (fun w2 hC hk=>hK _ _ ?_)
      have HS9:=hid (hC HO.out)
      clear hC hk hK
      go_wp2_with fail
      go_roundw
      case rel=>exact⟨k+1,l,by omega,by go_num,HS9.out.next HNo.out⟩
      case measure=>simp[intOf];omega
     |false=>
      have HD:=hid ((tintFns.dead (cfR N) D (nth L k) h64).as (vb (hdd.trans hd)) rfl)
      obtain⟨rc,hrc⟩:∃rc:Int,rc=t.mr.refs:=⟨_,rfl⟩
      have HC:=hid ((zP (c:=cfR N) (D:=D) h64).as (vi (show D.cnt (nth L k)=rc by unfold Wd.cnt;rw[hf,hrc])) rfl)
      obtain⟨M,hM⟩:∃M:Nat,M=uo D L L.length J:=⟨_,rfl⟩
      have hMs:M=au (fI (nth L k)) D.ts:=by rw[hM,Nz HF.out,hJ]
      have HCell:∀w',(ny KP.out).r wr w'→w'.cell? ⟨q,J,none⟩=some (.int .i64 (M:Int)):=fun w' hC=>by
       rw[hM]
       exact(hC HO.out).nm.arr (by omega)
      have hjl:J<N+1:=by omega
      have hji:(J:Int)<(N:Int)+1:=by omega
      have hj0:(0:Int)≤(J:Int):=by omega
      by_cases hgt:(M:Int)<rc
      ·have HYes:Hid (xm D (J:Int)):=hid (hJ▸⟨t,hf,hd,by rw[←hMs,←hrc];exact hgt⟩)
       rw[hJ] at HI HD HC hc9
       clear hO hdd hf hd h64 hJ hrc hM hMs
       go_wp2_with fail
       refine TX.bB (T:=ny KP.out) [TX.af.is (.pointer (some ⟨p.a,0,none⟩)),TX.af.is (.int .i64 (J:Int)),TX.af.is (.bool true),TX.af.is (.bool true),TX.af.is (.pointer (some ⟨p.a,0,none⟩)),TX.af.is (.int .i64 (J:Int)),TX.af.is (.bool false),TX.af.is (.bool true),TX.af.is (.bool true),TX.af.is (.bool true),TX.af.is (.pointer (some ⟨p.a,0,none⟩)),TX.af.is (.int .i64 (J:Int)),TX.af.is (.int .i64 rc),TX.af.is (.slice (some ⟨q,0,none⟩) (N+1) (N+1)),TX.af.is (.int .i64 (J:Int)),TX.af.is (.pointer (some ⟨q,J,none⟩)),TX.af.is (.int .i64 (M:Int)),TX.af.is (.bool true),TX.af.is (.bool true)] (by kernel_rfl) (by kernel_rfl) rfl (by kernel_rfl) (fun ops K2 hops hK=> ?_)
       refine TX.aa (TX.ae rfl) (fun w' hC hd=>TX.aj _ (.inl rfl) rfl) (by go_frame;rfl) (by simp only[List.nil_append,List.cons_append];rfl) ?_
       refine TX.aa (TX.ae rfl) (fun w' hC hd=>TX.aj _ (.inl rfl) rfl) (by go_frame;rfl) (by simp only[List.nil_append,List.cons_append];rfl) ?_
       refine TX.aa (TX.ae rfl) (fun w' hC hd=>TX.bP 66 (.pointer (some ⟨p.a,0,none⟩)) 67 (.int .i64 (J:Int)) rfl rfl (fun ρ hρ hf e0 e1=>TX.bJ (f:=49) (by go_simp) (kK KP.out HI.out HO.out hC))) (by go_frame;rfl) (by simp only[List.nil_append,List.cons_append];rfl) ?_
       refine TX.aa (TX.ae rfl) (fun w' hC hd=>TX.aj _ (.inl rfl) rfl) (by go_frame;rfl) (by simp only[List.nil_append,List.cons_append];rfl) ?_
       refine TX.aa (TX.aA hops rfl rfl rfl rfl) (fun w' hC hd=>TX.aj _ (.inl rfl) rfl) (by go_frame;rfl) (by simp only[List.nil_append,List.cons_append];rfl) ?_
       refine TX.aa (TX.aA hops rfl rfl rfl rfl) (fun w' hC hd=>TX.aj _ (.inl rfl) rfl) (by go_frame;rfl) (by simp only[List.nil_append,List.cons_append];rfl) ?_
       refine TX.aa (TX.aA hops rfl rfl rfl rfl) (fun w' hC hd=>TX.bP 70 (.pointer (some ⟨p.a,0,none⟩)) 71 (.int .i64 (J:Int)) rfl rfl (fun ρ hρ hf e0 e1=>TX.bJ (f:=50) (by go_simp) (kK KP.out HD.out HO.out hC))) (by go_frame;rfl) (by simp only[List.nil_append,List.cons_append];rfl) ?_
       refine TX.aa (TX.aA hops rfl rfl rfl rfl) (fun w' hC hd=>TX.aD 72 (.bool false) rfl (fun ρ hρ hf e0=>TX.ay (by go_simp))) (by go_frame;rfl) (by simp only[List.nil_append,List.cons_append];rfl) ?_
       refine TX.aa (TX.ae rfl) (fun w' hC hd=>TX.dZ _ _ _ true rfl rfl rfl) (by go_frame;rfl) (by simp only[List.nil_append,List.cons_append];rfl) ?_
       refine TX.aa (TX.ae rfl) (fun w' hC hd=>TX.aj _ (.inl rfl) rfl) (by go_frame;rfl) (by simp only[List.nil_append,List.cons_append];rfl) ?_
       refine TX.aa (TX.aA hops rfl rfl rfl rfl) (fun w' hC hd=>TX.aj _ (.inl rfl) rfl) (by go_frame;rfl) (by simp only[List.nil_append,List.cons_append];rfl) ?_
       refine TX.aa (TX.aA hops rfl rfl rfl rfl) (fun w' hC hd=>TX.aj _ (.inl rfl) rfl) (by go_frame;rfl) (by simp only[List.nil_append,List.cons_append];rfl) ?_
       refine TX.aa (TX.aA hops rfl rfl rfl rfl) (fun w' hC hd=>TX.bP 76 (.pointer (some ⟨p.a,0,none⟩)) 77 (.int .i64 (J:Int)) rfl rfl (fun ρ hρ hf e0 e1=>TX.bJ (f:=33) (by go_simp) (kK KP.out HC.out HO.out hC))) (by go_frame;rfl) (by simp only[List.nil_append,List.cons_append];rfl) ?_
       refine TX.aa (TX.aA hops rfl rfl rfl rfl) (fun w' hC hd=>TX.aj _ (.inl rfl) rfl) (by go_frame;rfl) (by simp only[List.nil_append,List.cons_append];rfl) ?_
       refine TX.aa (TX.aA hops rfl rfl rfl rfl) (fun w' hC hd=>TX.aj _ (.inl rfl) rfl) (by go_frame;rfl) (by simp only[List.nil_append,List.cons_append];rfl) ?_
       refine TX.aa (TX.aA hops rfl rfl rfl rfl) (fun w' hC hd=>TX.bP 79 (.slice (some ⟨q,0,none⟩) (N+1) (N+1)) 80 (.int .i64 (J:Int)) rfl rfl (fun ρ hρ hf e0 e1=>TX.ay (by go_simp))) (by go_frame;rfl) (by simp only[List.nil_append,List.cons_append];rfl) ?_
       refine TX.aa (TX.aA hops rfl rfl rfl rfl) (fun w' hC hd=>TX.aD 81 (.pointer (some ⟨q,J,none⟩)) rfl (fun ρ hρ hf e0=>TX.ay (by have hc0:=HCell w' hC;go_simp))) (by go_frame;rfl) (by simp only[List.nil_append,List.cons_append];rfl) ?_
       refine TX.aa (TX.aA hops rfl rfl rfl rfl) (fun w' hC hd=>TX.bP 78 (.int .i64 rc) 82 (.int .i64 (M:Int)) rfl rfl (fun ρ hρ hf e0 e1=>TX.ay (by have hb0:=hgt;go_simp))) (by go_frame;rfl) (by simp only[List.nil_append,List.cons_append];rfl) ?_
       refine TX.aa (TX.ae rfl) (fun w' hC hd=>TX.dZ _ _ _ true rfl rfl rfl) (by go_frame;rfl) (by simp only[List.nil_append,List.cons_append];rfl) ?_
       refine TX.fJ (fun w2 hC hk=>hK _ _ ?_)
       have HS9:=hid (hC HO.out)
       clear hC hk hK
       have HSo:=hid HS9.out
       have hown:=HS9.out.td
       have hsz5:=HS9.out.sz
       clear HS9 HCell
       go_wp2_with (at_builtin;refine wpList_append_lies _ rfl _ _ 45 rfl w5.heap.size 3 i0 (.int .i64 0) 1 8 Tryz.underlying45 hinf hz0 hz1 hz2 rfl (by decide) _ _ _ rfl (hown.alloc _) ⟨w2.heap.size,0,none⟩ 1 1 [.int .i64 (J:Int)] rfl rfl ?c1 ?c2 (by decide) ?c3 ?c4 ?c5 (w2.heap.size+1) (by simp) ?c6)
       case c1=>
        intro j2 z hz
        exact cell_one_new w2 (.int .i64 (J:Int)) 3 j2 z hz
       case c2=>intro u hu;simp at hu;subst hu;rfl
       case c3=>unfold maxLen;omega
       case c4=>omega
       case c5=>simp;omega
       case c6=>
        intro g cap6 w6 ho hg hat hl6
        have HP:=hid (HSo.out.push (x:=(J:Int)) HJk.out.symm HYes.out HW5.out ho hg)
        clear ho hg hat hl6 hown
        go_wp2_with fail
        go_roundw
        case rel=>exact⟨k+1,_,by omega,by go_num,HP.out⟩
        case measure=>simp[intOf];omega
      ·have HNo:Hid (¬xm D (nth L k)):=hid (fun⟨t2,h1,h2,h3⟩=>by
        rw[hf] at h1
        cases h1
        rw[←hMs,←hrc] at h3
        exact hgt h3)
       rw[hJ] at HI HD HC hc9
       clear hO hdd hf hd h64 hJ hrc hM hMs
       go_wp2_with fail
       refine TX.bB (T:=ny KP.out) [TX.af.is (.pointer (some ⟨p.a,0,none⟩)),TX.af.is (.int .i64 (J:Int)),TX.af.is (.bool true),TX.af.is (.bool true),TX.af.is (.pointer (some ⟨p.a,0,none⟩)),TX.af.is (.int .i64 (J:Int)),TX.af.is (.bool false),TX.af.is (.bool true),TX.af.is (.bool true),TX.af.is (.bool true),TX.af.is (.pointer (some ⟨p.a,0,none⟩)),TX.af.is (.int .i64 (J:Int)),TX.af.is (.int .i64 rc),TX.af.is (.slice (some ⟨q,0,none⟩) (N+1) (N+1)),TX.af.is (.int .i64 (J:Int)),TX.af.is (.pointer (some ⟨q,J,none⟩)),TX.af.is (.int .i64 (M:Int)),TX.af.is (.bool false),TX.af.is (.bool false)] (by kernel_rfl) (by kernel_rfl) rfl (by kernel_rfl) (fun ops K2 hops hK=> ?_)
       refine TX.aa (TX.ae rfl) (fun w' hC hd=>TX.aj _ (.inl rfl) rfl) (by go_frame;rfl) (by simp only[List.nil_append,List.cons_append];rfl) ?_
       refine TX.aa (TX.ae rfl) (fun w' hC hd=>TX.aj _ (.inl rfl) rfl) (by go_frame;rfl) (by simp only[List.nil_append,List.cons_append];rfl) ?_
       refine TX.aa (TX.ae rfl) (fun w' hC hd=>TX.bP 66 (.pointer (some ⟨p.a,0,none⟩)) 67 (.int .i64 (J:Int)) rfl rfl (fun ρ hρ hf e0 e1=>TX.bJ (f:=49) (by go_simp) (kK KP.out HI.out HO.out hC))) (by go_frame;rfl) (by simp only[List.nil_append,List.cons_append];rfl) ?_
       refine TX.aa (TX.ae rfl) (fun w' hC hd=>TX.aj _ (.inl rfl) rfl) (by go_frame;rfl) (by simp only[List.nil_append,List.cons_append];rfl) ?_
       refine TX.aa (TX.aA hops rfl rfl rfl rfl) (fun w' hC hd=>TX.aj _ (.inl rfl) rfl) (by go_frame;rfl) (by simp only[List.nil_append,List.cons_append];rfl) ?_
       refine TX.aa (TX.aA hops rfl rfl rfl rfl) (fun w' hC hd=>TX.aj _ (.inl rfl) rfl) (by go_frame;rfl) (by simp only[List.nil_append,List.cons_append];rfl) ?_
       refine TX.aa (TX.aA hops rfl rfl rfl rfl) (fun w' hC hd=>TX.bP 70 (.pointer (some ⟨p.a,0,none⟩)) 71 (.int .i64 (J:Int)) rfl rfl (fun ρ hρ hf e0 e1=>TX.bJ (f:=50) (by go_simp) (kK KP.out HD.out HO.out hC))) (by go_frame;rfl) (by simp only[List.nil_append,List.cons_append];rfl) ?_
       refine TX.aa (TX.aA hops rfl rfl rfl rfl) (fun w' hC hd=>TX.aD 72 (.bool false) rfl (fun ρ hρ hf e0=>TX.ay (by go_simp))) (by go_frame;rfl) (by simp only[List.nil_append,List.cons_append];rfl) ?_
       refine TX.aa (TX.ae rfl) (fun w' hC hd=>TX.dZ _ _ _ true rfl rfl rfl) (by go_frame;rfl) (by simp only[List.nil_append,List.cons_append];rfl) ?_
       refine TX.aa (TX.ae rfl) (fun w' hC hd=>TX.aj _ (.inl rfl) rfl) (by go_frame;rfl) (by simp only[List.nil_append,List.cons_append];rfl) ?_
       refine TX.aa (TX.aA hops rfl rfl rfl rfl) (fun w' hC hd=>TX.aj _ (.inl rfl) rfl) (by go_frame;rfl) (by simp only[List.nil_append,List.cons_append];rfl) ?_
       refine TX.aa (TX.aA hops rfl rfl rfl rfl) (fun w' hC hd=>TX.aj _ (.inl rfl) rfl) (by go_frame;rfl) (by simp only[List.nil_append,List.cons_append];rfl) ?_
       refine TX.aa (TX.aA hops rfl rfl rfl rfl) (fun w' hC hd=>TX.bP 76 (.pointer (some ⟨p.a,0,none⟩)) 77 (.int .i64 (J:Int)) rfl rfl (fun ρ hρ hf e0 e1=>TX.bJ (f:=33) (by go_simp) (kK KP.out HC.out HO.out hC))) (by go_frame;rfl) (by simp only[List.nil_append,List.cons_append];rfl) ?_
       refine TX.aa (TX.aA hops rfl rfl rfl rfl) (fun w' hC hd=>TX.aj _ (.inl rfl) rfl) (by go_frame;rfl) (by simp only[List.nil_append,List.cons_append];rfl) ?_
       refine TX.aa (TX.aA hops rfl rfl rfl rfl) (fun w' hC hd=>TX.aj _ (.inl rfl) rfl) (by go_frame;rfl) (by simp only[List.nil_append,List.cons_append];rfl) ?_
       refine TX.aa (TX.aA hops rfl rfl rfl rfl) (fun w' hC hd=>TX.bP 79 (.slice (some ⟨q,0,none⟩) (N+1) (N+1)) 80 (.int .i64 (J:Int)) rfl rfl (fun ρ hρ hf e0 e1=>TX.ay (by go_simp))) (by go_frame;rfl) (by simp only[List.nil_append,List.cons_append];rfl) ?_
       refine TX.aa (TX.aA hops rfl rfl rfl rfl) (fun w' hC hd=>TX.aD 81 (.pointer (some ⟨q,J,none⟩)) rfl (fun ρ hρ hf e0=>TX.ay (by have hc0:=HCell w' hC;go_simp))) (by go_frame;rfl) (by simp only[List.nil_append,List.cons_append];rfl) ?_
       refine TX.aa (TX.aA hops rfl rfl rfl rfl) (fun w' hC hd=>TX.bP 78 (.int .i64 rc) 82 (.int .i64 (M:Int)) rfl rfl (fun ρ hρ hf e0 e1=>TX.ay (by have hb0:=hgt;go_simp))) (by go_frame;rfl) (by simp only[List.nil_append,List.cons_append];rfl) ?_
       refine TX.aa (TX.ae rfl) (fun w' hC hd=>TX.dZ _ _ _ true rfl rfl rfl) (by go_frame;rfl) (by simp only[List.nil_append,List.cons_append];rfl) ?_
       refine TX.fJ (fun w2 hC hk=>hK _ _ ?_)
       have HS9:=hid (hC HO.out)
       clear hC hk hK
       clear HCell
       go_wp2_with fail
       go_roundw
       case rel=>exact⟨k+1,l,by omega,by go_num,HS9.out.next HNo.out⟩
       case measure=>simp[intOf];omega
    ·obtain rfl:k=L.length:=by omega
     obtain⟨a3,cap3,rfl,hrow⟩:=Row.kI hO.td
     have HRow:=hid hrow
     have HAl:Hid (∀x,x∈L→xm D x→x∈l):=hid (fun x hx hc=>by
      obtain⟨i,hi,e⟩:=List.getElem_of_mem hx
      have h1:nth L i=x:=by rw[←e];unfold nth;simp[List.getD,hi]
      rw[←h1] at hc ⊢
      exact hO.all i hi hc)
     clear hO hrow
     go_wp2_with fail
     go_ret2
     exact⟨a3,cap3,l,hq,H,rfl,HRow.out,HO.out.len,HO.out.mem,HAl.out,HO.out.st,(Touch.of_below HB.out).trans HO.out.tc,HH.out.touch HO.out.tc (fun hx=>HNh.out.1 (Or.inr hx)),(HHd.out.touch HO.out.tc (fun b hx=>Nat.lt_of_not_le (fun hle=>HS0.out.xG (Nat.le_trans HSz.out.2 hle) (Or.inr hx)))).mono HSz.out.2,HNh.out.2.1⟩
section
variable {c:Cf} {zs:List Int} {D:Wd} {t:Th} {r:Int}
theorem Px(hr:In64 r):Does c D 49 [.int .i64 r] 1 D (.bool (D.find r).isSome):=fun zs hz R=>by
 have e:=Pv R.heap hz.may hr
 rw[obAt_find R r,Option.isSome_map] at e
 rw[←e]
 exact⟨zs,⟨1*dF (aB c (prev r) 0),by have:=lU (aB c (prev r) 0);omega,fun p m w hG=>vU hG r⟩,R⟩
theorem zh(R:av c zs D)(hf:D.find r=some t):Run c 110 [.int .i64 r] zs 3 zs (.tuple #[.int .i64 (t.pt.length:Int),.int .i64 (t.dt.length:Int),.int .i64 0]):=fun p m w hG=>by
 obtain⟨htl,rfl⟩:=find_live hf
 exact nR (s:=⟨zs,m⟩) (o:=t.ob) hG R.heap (R.obMem htl)
theorem KC(hz:Wz c zs)(R:av c zs D)(hr:In64 r)(h0:D.cnt r=0):∃d,d≤8∧Run c 111 [.int .i64 r] zs d zs (.tuple #[.int .i64 0,.bool false]):=by
 cases hf:D.find r with
 |none=>exact countFns.down_no c zs D.clean D.obs r hz R.heap hr (by rw[obAt_find R r,hf];rfl)
 |some t=>
  obtain⟨htl,rfl⟩:=find_live hf
  have e:t.mr.refs=0:=by unfold Wd.cnt at h0;rw[hf] at h0;exact h0
  exact countFns.down_zero c zs D.clean D.obs t.ob hz R.heap (R.obMem htl) (by have e3:nth zs (adr c t.ob.h 3)=t.mr.refs:=(R.own t htl).w3;rw[e3];exact e)
theorem Cv(hf:D.find r=some t){f:Int}(hn:¬f<(t.pt.length:Int)):Does c D 52 [.int .i64 r,.int .i64 f] 3 D (.bool false):=fun zs hz R=>
 ⟨zs,⟨3,Nat.le_refl _,Dv hn (zh R hf)⟩,R⟩
theorem KR(S:San D)(hf:D.find r=some t)(hd:t.mr.dead=false){i:Nat}(hi:i<t.pt.length):Does c D 52 [.int .i64 r,.int .i64 (i:Int)] 72 (D.empt r i (nth t.pt i)) (.bool true):=fun zs hz R=>by
 obtain⟨htl,er⟩:=find_live hf
 have hk:=S.ok t htl
 have hpb:=S.vZ R hz.may
 have hr:In64 r:=by rw[←er];exact R.heap.vH hz.may (R.obMem htl)
 have C0:=zh R hf
 obtain⟨a,ha⟩:=(hk.alive hd).field hz.may R.w.symm hk.ql hi
 obtain⟨⟨d1,hd1,C1⟩,hx0,hx1⟩:=qU hz R hr hf hi ha
 obtain⟨⟨d2,hd2,C2⟩,R2,hz2⟩:=mE hz R hf hi ha (x:=0) (Int.le_refl 0) (by omega)
 have hn:(i:Int)<(t.pt.length:Int):=by omega
 generalize nth t.pt i=x at C1 hx0 hx1
 have hxr:In64 x:=by unfold In64;omega
 unfold Wd.empt
 by_cases hc:(D.setP r i 0).cnt x=0
 ·rw[if_pos hc]
  obtain⟨d3,hd3,C3⟩:=KC hz2 R2 hxr hc
  exact⟨_,⟨3+d1+d2+d3,by omega,xO hn C0 C1 C2 C3⟩,R2⟩
 ·rw[if_neg hc]
  cases hu:(D.setP r i 0).find x with
  |none=>exact absurd (by unfold Wd.cnt;rw[hu]) hc
  |some u=>
   have hcu:(D.setP r i 0).cnt x=u.mr.refs:=by unfold Wd.cnt;rw[hu]
   obtain⟨zs3,C3,R3⟩:=zQ hz2 R2 hu (by rw[←hcu];exact hc)
   have hz3:Wz c zs3:=gY.wz hz2 ⟨3,Nat.le_refl _,C3⟩
   have hcd:((D.setP r i 0).down x).cnt x=u.mr.refs-1:=by unfold Wd.cnt Wd.down;rw[mark_find _ hu]
   by_cases hk1:u.mr.refs-1=0
   ·rw[hk1] at C3
    obtain⟨zs4,⟨d4,hd4,C4⟩,R4,hz4⟩:=(vD (c:=c) (D:=(D.setP r i 0).down x) hxr hpb.1 (by show D.pending≤_;omega)).at hz3 R3
    exact⟨zs4,⟨3+d1+d2+3+d4,by omega,xM hn C0 C1 C2 C3 C4⟩,R4⟩
   ·have e:((D.setP r i 0).down x).inter x=(D.setP r i 0).down x:=by unfold Wd.inter;rw[if_neg (by rw[hcd];exact hk1)]
    rw[e]
    exact⟨zs3,⟨3+d1+d2+3,by omega,xN hn hk1 C0 C1 C2 C3⟩,R3⟩
theorem ld_reap(S:San D):Does c D 12 [] 96 D.reap (.bool D.reapB):=fun zs hz R=>by
 have hm:=hz.may
 have hmn:=hm.n
 have hN:=R.n
 obtain⟨⟨k0,k1⟩,f0,f1⟩:=R.curs hz
 obtain⟨zs1,⟨d1,hd1,C1⟩,R1,hz1⟩:=(tintFns.at_ c D).at hz R
 obtain⟨zs2,⟨d2,hd2,C2⟩,R2,hz2⟩:=(tintFns.phase c D).at hz1 R1
 by_cases hp:D.phase=3
 ·rw[hp] at C2
  by_cases hk:D.cursor<(D.n:Int)
  ·have e:D.reapB=true:=by unfold Wd.reapB;simp[hp,hk]
   have hk':D.cursor<(c.N:Int):=by rw[←hN];exact hk
   have hr:In64 (D.cursor+1):=by constructor<;>omega
   unfold Wd.reap
   rw[e,if_pos rfl]
   obtain⟨zs3,⟨d3,hd3,C3⟩,R3,hz3⟩:=(Px (c:=c) (D:=D) hr).at hz2 R2
   cases hf:D.find (D.cursor+1) with
   |none=>
    rw[hf] at C3
    obtain⟨zs4,⟨d4,hd4,C4⟩,R4,hz4⟩:=(je (c:=c) (D:=D) (x:=D.cursor+1) (y:=0) (by omega) (by omega) (by omega) (by omega)).at hz3 R3
    exact⟨zs4,⟨d1+d2+d3+d4,by omega,Az k0 hk' hm C1 C2 C3 C4⟩,R4⟩
   |some t=>
    rw[hf] at C3
    have hdd:D.dead (D.cursor+1)=t.mr.dead:=by unfold Wd.dead;rw[hf]
    have hbb:D.black (D.cursor+1)=decide (t.mr.color=D.parity):=by unfold Wd.black;rw[hf]
    obtain⟨zs4,⟨d4,hd4,C4⟩,R4,hz4⟩:=(tintFns.dead c D (D.cursor+1) hr).at hz3 R3
    rw[hdd] at C4
    unfold Wd.reapAt
    simp only
    cases hd:t.mr.dead with
    |true=>
     rw[hd] at C4
     rw[if_pos (.inl rfl)]
     obtain⟨zs5,⟨d5,hd5,C5⟩,R5,hz5⟩:=(je (c:=c) (D:=D) (x:=D.cursor+1) (y:=0) (by omega) (by omega) (by omega) (by omega)).at hz4 R4
     exact⟨zs5,⟨d1+d2+d3+d4+d5,by omega,Aw k0 hk' hm C1 C2 C3 C4 C5⟩,R5⟩
    |false=>
     rw[hd] at C4
     obtain⟨zs5,⟨d5,hd5,C5⟩,R5,hz5⟩:=(tintFns.black c D (D.cursor+1) hr).at hz4 R4
     rw[hbb] at C5
     by_cases hc:t.mr.color=D.parity
     ·rw[decide_eq_true hc] at C5
      rw[if_pos (.inr hc)]
      obtain⟨zs6,⟨d6,hd6,C6⟩,R6,hz6⟩:=(je (c:=c) (D:=D) (x:=D.cursor+1) (y:=0) (by omega) (by omega) (by omega) (by omega)).at hz5 R5
      exact⟨zs6,⟨d1+d2+d3+d4+d5+d6,by omega,xK k0 hk' hm C1 C2 C3 C4 C5 C6⟩,R6⟩
     ·rw[decide_eq_false hc] at C5
      rw[if_neg (fun h=>h.elim (fun h=>by cases h) hc)]
      by_cases hff:D.field<(t.pt.length:Int)
      ·obtain⟨j,hj⟩:=Int.eq_ofNat_of_zero_le f0
       have hjl:j<t.pt.length:=by omega
       have hsz:=(R5.szt hm S (find_live hf).1).small
       obtain⟨zs6,⟨d6,hd6,C6⟩,R6,hz6⟩:=(KR (c:=c) S hf hd hjl).at hz5 R5
       obtain⟨zs7,⟨d7,hd7,C7⟩,R7,hz7⟩:=(je (c:=c) (D:=D.empt (D.cursor+1) j (nth t.pt j)) (x:=D.cursor) (y:=(j:Int)+1) (by omega) (by omega) (by omega) (by omega)).at hz6 R6
       rw[if_pos hff]
       rw[hj] at C1 ⊢
       rw[Int.toNat_natCast]
       exact⟨zs7,⟨d1+d2+d3+d4+d5+d6+d7,by omega,FC (f:=(j:Int)) (by omega) (by omega) k0 hk' hm C1 C2 C3 C4 C5 C6 C7⟩,R7⟩
      ·obtain⟨zs6,⟨d6,hd6,C6⟩,R6,hz6⟩:=(Cv (c:=c) hf hff).at hz5 R5
       obtain⟨zs7,⟨d7,hd7,C7⟩,R7,hz7⟩:=(tintFns.paint c D (D.cursor+1) hr).at hz6 R6
       obtain⟨zs8,⟨d8,hd8,C8⟩,R8,hz8⟩:=(je (c:=c) (D:=D.paint (D.cursor+1)) (x:=D.cursor+1) (y:=0) (by omega) (by omega) (by omega) (by omega)).at hz7 R7
       rw[if_neg hff]
       exact⟨zs8,⟨d1+d2+d3+d4+d5+d6+d7+d8,by omega,Ay k0 hk' hm C1 C2 C3 C4 C5 C6 C7 C8⟩,R8⟩
  ·have e:D.reapB=false:=by unfold Wd.reapB;simp[hk]
   rw[reap_idle e,e]
   exact⟨zs2,⟨d1+d2,by omega,Du (by rw[←hN];omega) C1 C2⟩,R2⟩
 ·have e:=reap_no hp
  rw[reap_idle e,e]
  exact⟨zs2,⟨d1+d2,by omega,xL hp C1 C2⟩,R2⟩
end
def Qg:Wd:=(Wd.new 2 16).born 1 0
def Ri:Wd:=Qg.born 1 0
def LD:Wd:=Ri.put 1 0 2 0
def Oa:Wd:=LD.put 2 0 1 0
def NZ:Wd:=Oa.less 1
def Je:Wd:=NZ.less 2
def Qx:Wd:=Je.turn.begin 1
def Qv:Wd:=(ak 4 Qx).begin 2
def RA:Wd:=aL 2 Qv
def LF:Wd:=RA.begin 3
def LG:Wd:=LF.reap
def LH:Wd:=LG.reap
def FD:Wd:=LH.reap
theorem LM:(Wd.new 2 16).mkE 1 0=0∧(Wd.new 2 16).mkR 1 0=1:=by decide
theorem LQ:Qg.mkE 1 0=0∧Qg.mkR 1 0=2:=by decide
theorem LU:∀j:Fin 4,(ak j Qx).bv=true:=by decide
theorem Jg:(ak 4 Qx).bv=false:=by decide
theorem LK:∀j:Fin 2,(aL j Qv).bu=true:=by decide
theorem Jf:(aL 2 Qv).bu=false:=by decide
theorem AA:LF.reapB=true∧LG.reapB=true∧LH.reapB=true:=by decide
theorem FE:FD.pending=1∧FD.cnt 2=0∧Je.pending=0:=by decide
theorem LJ:0≤LF.field∧0≤LG.field∧0≤LH.field:=by decide
def Qw(h:Nat)(x:Int)(n:Int):Th:=⟨h,[],[x],[],false,⟨n,0,0,0,0,false,0,0⟩⟩
theorem OO:Ri.find 1=some (Qw 0 0 1):=by rfl
theorem Rj:Ri.find 2=some (Qw 1 0 1):=by rfl
theorem OP:LD.find 2=some (Qw 1 0 2):=by rfl
theorem Rk:LD.find 1=some (Qw 0 2 1):=by rfl
theorem Rl:Oa.find 1=some (Qw 0 2 2):=by rfl
theorem Rm:NZ.find 2=some (Qw 1 1 2):=by rfl
set_option maxHeartbeats 2000000 in
theorem begun18_any(w:World):Calls Tryz.prog 7 #[] w fun e w'=>e=.returned (.bool true)∧Below w.heap.size w w':=by
 go_enter Tryz.func7,Tryz.ntmps7
 go_wp2_with fail
 refine(vX poolFns 2 _ (by decide) (by decide)).mono ?_
 rintro e w0 ⟨p,q,lo,rfl,h,_,_,_,_⟩
 have H0:=hid h
 have I0:=hid (PInv.new (cfR 2) (v:=16) (by decide))
 have HB1:=hid (GJ (cfR 2) (Wd.new 2 16) 1 0 h)
 rw[LM.1,LM.2,show(Wd.new 2 16).born 1 0=Qg from rfl] at HB1
 clear h
 go_wp2_with fail
 refine HB1.out.mono ?_
 rintro e w1 ⟨rfl,h1,_,hOk⟩
 have I1:Hid (PInv (cfR 2) 1 Qg):=hid (I0.out.born hOk)
 have HB2:=hid (GJ (cfR 2) Qg 1 0 h1)
 rw[LQ.1,LQ.2,show Qg.born 1 0=Ri from rfl] at HB2
 clear h1 hOk
 go_wp2_with fail
 refine HB2.out.mono ?_
 rintro e w2 ⟨rfl,h2,_,hOk⟩
 have H2:=hid h2
 have I2:PInv (cfR 2) 2 Ri:=I1.out.born hOk
 have I3:PInv (cfR 2) 3 LD:=I2.put OO rfl 0 2 0
 have I4:PInv (cfR 2) 4 Oa:=I3.put OP rfl 0 1 0
 have I5:PInv (cfR 2) 5 NZ:=I4.OH 1
 have HI6:Hid (PInv (cfR 2) 6 Je):=hid (I5.OH 2)
 have HP1:=hid (ld_Put (c:=cfR 2) (x:=2) (i:=0) I2.san OO rfl (by decide) (.inr ⟨_,Rj,rfl,by decide⟩) (by decide) (by decide))
 have HP2:=hid (ld_Put (c:=cfR 2) (x:=1) (i:=0) I3.san OP rfl (by decide) (.inr ⟨_,Rk,rfl,by decide⟩) (by decide) (by decide))
 have HL1:=hid (ld_Let (c:=cfR 2) Rl rfl (by decide) (by decide) (by decide))
 have HL2:=hid (ld_Let (c:=cfR 2) Rm rfl (by decide) (by decide) (by decide))
 have HPe:=hid ((vC (c:=cfR 2) (D:=Je)).as (vi FE.2.2) rfl)
 clear h2 hOk I2 I3 I4 I5
 go_wp2_with fail
 refine(H2.out.does HP1.out).mono ?_
 rintro e w3 ⟨rfl,h,_⟩
 have H3:Hid (RSt w p (cfR 2) LD w3):=hid h
 clear h
 go_wp2_with fail
 refine(H3.out.does HP2.out).mono ?_
 rintro e w4 ⟨rfl,h,_⟩
 have H4:Hid (RSt w p (cfR 2) Oa w4):=hid h
 clear h
 go_wp2_with fail
 refine(H4.out.does HL1.out).mono ?_
 rintro e w5 ⟨rfl,h,_⟩
 have H5:Hid (RSt w p (cfR 2) NZ w5):=hid h
 clear h
 go_wp2_with fail
 refine(H5.out.does HL2.out).mono ?_
 rintro e w6 ⟨rfl,h,_⟩
 have H6:Hid (RSt w p (cfR 2) Je w6):=hid h
 clear h
 go_wp2_with fail
 refine(H6.out.does HPe.out).mono ?_
 rintro e w7 ⟨rfl,h,_⟩
 have H7:Hid (RSt w p (cfR 2) Je w7):=hid h
 clear h
 go_wp2_with fail
 refine(GZ H7.out HI6.out (by decide) (by decide)).mono ?_
 rintro e w8 ⟨m,n,rfl,t1,t2,f1,f2,_,hS,hsn,_⟩
 have t1:∀j,j<m→(ak j Qx).bv=true:=t1
 have t2:(ak m Qx).bv=false:=t2
 obtain rfl:m=4:=last_one (P:=fun j=>(ak j Qx).bv) t1 t2 (fun j hj=>LU ⟨j,hj⟩) Jg
 have f1:∀j,j<n→(aL j Qv).bu=true:=f1
 have f2:(aL n Qv).bu=false:=f2
 obtain rfl:n=2:=last_one (P:=fun j=>(aL j Qv).bu) f1 f2 (fun j hj=>LK ⟨j,hj⟩) Jf
 have H8:Hid (RSt w p (cfR 2) RA w8):=hid hS
 have s0:San LF:=San.same_but (D:=RA) hsn rfl rfl rfl rfl (fun b hb=>.inl hb)
 have s1:San LG:=s0.reap LJ.1
 have s2:San LH:=s1.reap LJ.2.1
 have HBe:=hid (ld_begin (c:=cfR 2) (D:=RA) 3 (by decide) (by decide))
 have HR1:=hid ((ld_reap (c:=cfR 2) s0).as (vb AA.1) rfl)
 have HR2:=hid ((ld_reap (c:=cfR 2) s1).as (vb AA.2.1) rfl)
 have HR3:=hid ((ld_reap (c:=cfR 2) s2).as (vb AA.2.2) rfl)
 have HPf:=hid ((vC (c:=cfR 2) (D:=FD)).as (vi FE.1) rfl)
 have HCn:=hid ((zP (c:=cfR 2) (D:=FD) (vH 2)).as (vi FE.2.1) rfl)
 clear hS hsn t1 t2 f1 f2 s0 s1 s2
 go_wp2_with fail
 refine(H8.out.does HBe.out).mono ?_
 rintro e w9 ⟨rfl,h,_⟩
 have H9:Hid (RSt w p (cfR 2) LF w9):=hid h
 clear h
 go_wp2_with fail
 refine(H9.out.does HR1.out).mono ?_
 rintro e w10 ⟨rfl,h,_⟩
 have H10:Hid (RSt w p (cfR 2) LG w10):=hid h
 clear h
 go_wp2_with fail
 refine(H10.out.does HR2.out).mono ?_
 rintro e w11 ⟨rfl,h,_⟩
 have H11:Hid (RSt w p (cfR 2) LH w11):=hid h
 clear h
 go_wp2_with fail
 refine(H11.out.does HR3.out).mono ?_
 rintro e w12 ⟨rfl,h,_⟩
 have H12:Hid (RSt w p (cfR 2) FD w12):=hid h
 clear h
 go_wp2_with fail
 refine(H12.out.does HPf.out).mono ?_
 rintro e w13 ⟨rfl,h,_⟩
 have H13:Hid (RSt w p (cfR 2) FD w13):=hid h
 clear h
 go_wp2_with fail
 refine(H13.out.does HCn.out).mono ?_
 rintro e w14 ⟨rfl,h,_⟩
 have H14:Hid (RSt w p (cfR 2) FD w14):=hid h
 clear h
 go_wp2_with fail
 go_ret
 exact⟨rfl,H14.out.below⟩
section
variable {D:Wd} {w wr w':World} {p:Pl} {N k:Nat} {L:List Int}
structure RO (w:World) (p:Pl) (c:Cf) (E D:Wd) (L:List Int) (w1:World) (hq:Nat) (H:Nat→Value) (wr:World):Prop where
 st:RSt w p c E wr
 tc:Touch (inG p) w1 wr
 hb:Blk wr hq (ek H (2*(c.N+1))) 57
 hd:HDb D L L.length w1.heap.size H wr
 hn:w1.heap.size≤hq
 ng:∀b,w1.heap.size≤b→¬jf p b
variable {E:Wd} {c:Cf} {w1:World} {hq:Nat} {H:Nat→Value}
theorem RO.later(h:RO w p c E D L w1 hq H wr)(hb:Below wr.heap.size wr w'):RO w p c E D L w1 hq H w':=
 ⟨h.st.later hb,h.tc.trans (Touch.of_below hb),h.hb.later hb,h.hd.touch (Touch.of_below hb) (X:=fun _=>False) (fun _ h=>h.elim),h.hn,h.ng⟩
theorem RO.Hr{E':Wd}(h:RO w p c E D L w1 hq H wr)(hs:RSt w p c E' w')(hT:Touch (inG p) wr w'):RO w p c E' D L w1 hq H w':=
 ⟨hs,h.tc.trans hT,h.hb.touch hT (fun hx=>h.ng hq h.hn (Or.inr hx)),h.hd.touch hT (fun b hx=>Nat.lt_of_not_le (fun hle=>h.ng b hle (Or.inr hx))),h.hn,h.ng⟩
theorem NI{w wr w':World}{p:Pl}{c:Cf}{D:Wd}{P:World→Prop}{args:Array Value}(K:PK w p c D P)(hi:∀u,P u→Calls Tryz.prog 24 args u fun e u'=>e=.returned (.bool true)∧Drw u u')(h:P wr)(hC:(ny K).r wr w'):
  Calls Tryz.prog 24 args w' fun e w''=>e=.returned (.bool true)∧(ny K).r w' w'':=
 (hi w' (hC h)).mono fun e w'' ⟨e1,hd⟩=>⟨e1,fun h=>K.lat _ _ hd.new h⟩
end
def sig(t:Th):Nat × List Int × List Int × List Int × Int:=(t.h,t.pt,t.dt,t.lv,t.mr.color)
structure KA (r:Int) (D D':Wd):Prop where
 par:D'.parity=D.parity
 sg:∀q,q≠r→(D'.find q).map sig=(D.find q).map sig
 dm:∀q t t',q≠r→D.find q=some t→D'.find q=some t'→t'.mr.dead=false→t.mr.dead=false
def KD(D D':Wd):Prop:=∀q,∃g:Th→Th,D'.find q=(D.find q).map g∧∀t,(g t).mr.dead=false→t.mr.dead=false
section
variable {D D' D2:Wd} {t:Th} {q:Int}
theorem KD.refl(D:Wd):KD D D:=fun q=>⟨id,by cases D.find q<;>rfl,fun _ h=>h⟩
theorem KD.trans(h:KD D D')(k:KD D' D2):KD D D2:=fun q=>by
 obtain⟨g,e1,h1⟩:=h q
 obtain⟨f,e2,h2⟩:=k q
 exact⟨fun t=>f (g t),by rw[e2,e1,Option.map_map];rfl,fun t hd=>h1 t (h2 _ hd)⟩
theorem KD.ts(h:D'.ts=D.ts):KD D D':=fun q=>⟨id,by unfold Wd.find;rw[h];cases aP q D.ts<;>rfl,fun _ h=>h⟩
theorem KD.upd(r:Int){g:Th→Th}(hg:∀t,(g t).ended=t.ended∧(g t).h=t.h)(hd:∀t,(g t).mr.dead=false→t.mr.dead=false)(hD:D'.ts=bz r g D.ts):KD D D':=fun q=>by
 refine⟨fun t=>if t.at r then g t else t,?_,fun t h=> ?_⟩
 ·unfold Wd.find
  rw[hD]
  exact iy (g:=g) hg q D.ts
 ·have h:(if t.at r=true then g t else t).mr.dead=false:=h
  split at h
  ·exact hd t h
  ·exact h
theorem KD.mark(D:Wd)(z:Int){f:Mrk→Mrk}(h2:∀m,(f m).dead=false→m.dead=false):KD D (D.mark z f):=KD.upd z (g:=fun t=>{t with mr:=f t.mr}) (fun _=>⟨rfl,rfl⟩) (fun t h=>h2 _ h) rfl
theorem KD.bury(D:Wd)(x:Int):KD D (D.bury x):=by
 unfold Wd.bury
 split
 ·exact KD.refl D
 ·rename_i t hf
  split
  ·exact KD.refl D
  ·exact KD.upd x (g:=fun s=>{s with mr:={s.mr with dead:=true,left:=(t.pt.length:Int),leaves:=(t.lv.length:Int)}}) (fun _=>⟨rfl,rfl⟩) (fun _ h=>by cases h) (gI x t)
theorem KD.drain(D:Wd)(r:Int)(i:Nat)(x:Int):KD D (D.drain r i x):=by
 have h0:KD D (D.setP r i 0):=KD.upd r (g:=fun t=>{t with pt:=t.pt.set i 0}) (fun _=>⟨rfl,rfl⟩) (fun _ h=>h) rfl
 have key:∀E,KD D E→KD D (if(E.down x).cnt x=0 then(E.down x).bury x else E.down x):=fun E h=>by
  have h1:KD D (E.down x):=h.trans (KD.mark E x (f:=fun m=>{m with refs:=m.refs-1}) (fun _ h=>h))
  split
  ·exact h1.trans (KD.bury _ x)
  ·exact h1
 unfold Wd.drain
 split
 ·exact h0
 ·refine key _ ?_
  split
  ·unfold Wd.aC
   split
   ·exact h0.trans (KD.mark _ x (f:=fun m=>{m with shadow:=m.shadow-1}) (fun _ h=>h))
   ·exact h0
  ·exact h0
theorem KD.at(h:KD D D')(hf:D.find q=some t)(hd:t.mr.dead=true):∀s,D'.find q=some s→s.mr.dead=true:=fun s hs=>by
 obtain⟨g,e,h1⟩:=h q
 rw[hf] at e
 simp only[Option.map_some] at e
 rw[e] at hs
 cases hs
 cases hg:(g t).mr.dead with
 |true=>rfl
 |false=>rw[h1 t hg] at hd;cases hd
end
section
variable {D D' D2 D1:Wd} {t t1 u v:Th} {r x y q:Int} {hold:Nat→Nat} {mk:Int→Prop} {fl:List Int} {N i:Nat}
theorem KA.refl(r:Int)(D:Wd):KA r D D:=⟨rfl,fun _ _=>rfl,fun q t t' _ h1 h2 h=>by rw[h1] at h2;cases h2;exact h⟩
theorem KA.back(h:KA r D D')(hq:q≠r)(hf:D'.find q=some t):∃s,D.find q=some s∧sig t=sig s:=by
 have h1:=h.sg q hq
 rw[hf] at h1
 cases hs:D.find q with
 |none=>rw[hs] at h1;cases h1
 |some s=>rw[hs] at h1;exact⟨s,rfl,Option.some.inj h1⟩
theorem KA.MR(h:KA r D D')(hq:q≠r)(hf:D.find q=some t):∃s,D'.find q=some s∧sig s=sig t:=by
 have h1:=h.sg q hq
 rw[hf] at h1
 cases hs:D'.find q with
 |none=>rw[hs] at h1;cases h1
 |some s=>rw[hs] at h1;exact⟨s,rfl,Option.some.inj h1⟩
theorem KA.trans(h:KA r D D')(k:KA r D' D2):KA r D D2:=⟨k.par.trans h.par,fun q hq=>(k.sg q hq).trans (h.sg q hq),fun q t t2 hq h1 h2 hd=>by
 obtain⟨s,hs,_⟩:=h.MR hq h1
 exact h.dm q t s hq h1 hs (k.dm q s t2 hq hs h2 hd)⟩
theorem KA.ts(r:Int)(h:D'.ts=D.ts)(hp:D'.parity=D.parity):KA r D D':=by
 have e:∀q,D'.find q=D.find q:=fun q=>by unfold Wd.find;rw[h]
 exact⟨hp,fun q _=>by rw[e],fun q t t' _ h1 h2 hd=>by rw[e,h1] at h2;cases h2;exact hd⟩
theorem KA.mark(r:Int)(D:Wd)(z:Int){f:Mrk→Mrk}(h1:∀m,(f m).color=m.color)(h2:∀m,(f m).dead=false→m.dead=false):KA r D (D.mark z f):=by
 refine⟨rfl,fun q _=> ?_,fun q t t' _ hf hf' hd=> ?_⟩
 ·rw[find_mark]
  cases D.find q with
  |none=>rfl
  |some t=>
   simp only[Option.map_some]
   split
   ·unfold sig
    simp only[h1]
   ·rfl
 ·rw[find_mark,hf] at hf'
  simp only[Option.map_some] at hf'
  have e:=Option.some.inj hf'
  split at e
  ·rw[←e] at hd
   exact h2 _ hd
  ·rw[e]
   exact hd
theorem KA.upd(r:Int)(D:Wd){g:Th→Th}(hg:∀t,(g t).ended=t.ended∧(g t).h=t.h)(hD:D'.ts=bz r g D.ts)(hp:D'.parity=D.parity):KA r D D':=by
 have e:∀q,q≠r→D'.find q=D.find q:=fun q hq=>by
  have h1:=iy (g:=g) hg (r:=r) q D.ts
  unfold Wd.find
  rw[hD]
  have h2:aP q (bz r g D.ts)=(aP q D.ts).map (fun t=>if t.at r then g t else t):=h1
  rw[h2]
  cases hf:aP q D.ts with
  |none=>rfl
  |some t=>
   simp only[Option.map_some]
   rw[if_neg (fun ha=>hq (Gn (D:=D) hf ha))]
 exact⟨hp,fun q hq=>by rw[e q hq],fun q t t' hq h1 h2 hd=>by rw[e q hq,h1] at h2;cases h2;exact hd⟩
theorem KA.bury(r:Int)(D:Wd)(x:Int):KA r D (D.bury x):=by
 unfold Wd.bury
 split
 ·exact KA.refl r D
 ·rename_i t hf
  split
  ·exact KA.refl r D
  ·have hm:=KA.mark r D x (f:=fun m=>{m with dead:=true,left:=(t.pt.length:Int),leaves:=(t.lv.length:Int)}) (fun _=>rfl) (fun _ h=>by cases h)
   exact hm.trans (KA.ts r (gI x t) rfl)
theorem KA.inter(r:Int)(D:Wd)(x:Int):KA r D (D.inter x):=by
 unfold Wd.inter
 split
 ·exact KA.bury r D x
 ·exact KA.refl r D
theorem KA.down(r:Int)(D:Wd)(x:Int):KA r D (D.down x):=KA.mark r D x (f:=fun m=>{m with refs:=m.refs-1}) (fun _=>rfl) (fun _ h=>h)
theorem KA.setP(r:Int)(D:Wd)(i:Nat)(x:Int):KA r D (D.setP r i x):=KA.upd r D (g:=fun t=>{t with pt:=t.pt.set i x}) (fun _=>⟨rfl,rfl⟩) rfl rfl
theorem KA.empt(r:Int)(D:Wd)(i:Nat)(x:Int):KA r D (D.empt r i x):=by
 unfold Wd.empt
 split
 ·exact KA.setP r D i 0
 ·exact((KA.setP r D i 0).trans (KA.down r _ x)).trans (KA.inter r _ x)
theorem KA.drain(r:Int)(D:Wd)(i:Nat)(x:Int):KA r D (D.drain r i x):=by
 have key:∀E,KA r D E→KA r D (if(E.down x).cnt x=0 then(E.down x).bury x else E.down x):=fun E h=>by
  split
  ·exact(h.trans (KA.down r _ x)).trans (KA.bury r _ x)
  ·exact h.trans (KA.down r _ x)
 unfold Wd.drain
 split
 ·exact KA.setP r D i 0
 ·refine key _ ?_
  split
  ·unfold Wd.aC
   split
   ·exact(KA.setP r D i 0).trans (KA.mark r _ x (f:=fun m=>{m with shadow:=m.shadow-1}) (fun _=>rfl) (fun _ h=>h))
   ·exact KA.setP r D i 0
  ·exact KA.setP r D i 0
theorem MO(hf:D.find r=some t)(hr:r≠0)(i:Nat)(x:Int):∃t',(D.empt r i x).find r=some t'∧sig t'=sig {t with pt:=t.pt.set i 0}:=by
 have h1:(D.setP r i 0).find r=some {t with pt:=t.pt.set i 0}:=by
  have h1:=kW (D:=D) (g:=fun t=>{t with pt:=t.pt.set i 0}) (fun _=>⟨rfl,rfl⟩) (r:=r) r
  rw[hf] at h1
  simp only[Option.map_some] at h1
  rw[if_pos (find_at_r hf)] at h1
  exact h1
 unfold Wd.empt
 split
 ·exact⟨_,h1,rfl⟩
 ·exact((KA.down 0 (D.setP r i 0) x).trans (KA.inter 0 _ x)).MR hr h1
theorem KA.step(S:San D):∃r,(∀t,D.find r=some t→t.mr.dead=true)∧(∀t,D.step.find r=some t→t.mr.dead=true)∧KA r D D.step:=by
 cases hg:D.grave with
 |nil=>
  have e:D.step=D:=by unfold Wd.step;rw[hg]
  rw[e]
  exact⟨-1,fun t h=>by have:=(find_live h).2;omega,fun t h=>by have:=(find_live h).2;omega,KA.refl _ D⟩
 |cons q rest=>
  obtain⟨t,htl,e,hf,hd,d,es⟩:=S.head hg
  have S2:=S.step
  refine⟨(q:Int),fun s hs=>by rw[hf] at hs;cases hs;exact hd,?_⟩
  rw[es] at S2 ⊢
  unfold Wd.work at S2 ⊢
  split
  ·exact⟨((KD.drain D _ _ _).trans (KD.mark _ _ (f:=fun m=>{m with left:=t.mr.left-1}) (fun _ h=>h))).at hf hd,(KA.drain _ D _ _).trans (KA.mark _ _ _ (f:=fun m=>{m with left:=t.mr.left-1}) (fun _=>rfl) (fun _ h=>h))⟩
  ·rename_i h1
   rw[if_neg h1] at S2
   split
   ·exact⟨(KD.upd (q:Int) (g:=fun s=>{s with lv:=s.lv.set (t.mr.leaves-1).toNat (-1),mr:={s.mr with leaves:=t.mr.leaves-1}}) (fun _=>⟨rfl,rfl⟩) (fun _ h=>h) (ji _ _ _ _)).at hf hd,KA.upd (q:Int) D (g:=fun s=>{s with lv:=s.lv.set (t.mr.leaves-1).toNat (-1),mr:={s.mr with leaves:=t.mr.leaves-1}}) (fun _=>⟨rfl,rfl⟩) (ji _ _ _ _) rfl⟩
   ·rename_i h2
    rw[if_neg h2] at S2
    have hlive:({({D with grave:=rest}:Wd).gJ (q:Int) t.h with pending:=D.pending-1}:Wd).live=D.live.filter (fun s=>s.h !=t.h):=fD (g:=fun s=>{s with ended:=true}) (fun _=>rfl) S.nd hf
    have hpar:({({D with grave:=rest}:Wd).gJ (q:Int) t.h with pending:=D.pending-1}:Wd).parity=D.parity:=rfl
    generalize ({({D with grave:=rest}:Wd).gJ (q:Int) t.h with pending:=D.pending-1}:Wd)=E at*
    have hl:∀s,s∈E.live↔s∈D.live∧s.h≠t.h:=fun s=>by
     rw[hlive,List.mem_filter]
     simp
    have ef:∀z,z≠(q:Int)→E.find z=D.find z:=fun z hz=>by
     cases h1:D.find z with
     |none=>
      cases h2:E.find z with
      |none=>rfl
      |some s=>
       obtain⟨k1,k2⟩:=find_live h2
       have:=S.findIt ((hl s).1 k1).1
       rw[k2,h1] at this
       cases this
     |some s=>
      obtain⟨k1,k2⟩:=find_live h1
      have:=S2.findIt ((hl s).2 ⟨k1,fun e2=>hz (by omega)⟩)
      rw[k2] at this
      exact this
    refine⟨fun s hs=> ?_,hpar,fun z hz=>by rw[ef z hz],fun z s s' hz h1 h2 hd=>by rw[ef z hz,h1] at h2;cases h2;exact hd⟩
    obtain⟨k1,k2⟩:=find_live hs
    exact absurd (show s.h=t.h by omega) ((hl s).1 k1).2
end
structure QF (hold:Nat→Nat) (mk:Int→Prop) (D1:Wd):Prop where
 h1:∀b:Nat,0<hold b→mk ((b:Int)+1)
 h2:∀x,mk x→∃t1,D1.find x=some t1∧t1.mr.color=D1.parity
 h3:∀x,mk x→(∃b:Nat,x=(b:Int)+1∧0<hold b)∨∃y t1 i,mk y∧D1.find y=some t1∧i<t1.pt.length∧nth t1.pt i=x
 h4:JE D1 mk
structure RV (hold:Nat→Nat) (mk:Int→Prop) (D1 D:Wd):Prop where
 san:San D
 nam:fP hold D
 pos:di 0 D
 out:Out hold D
 par:D.parity=D1.parity
 kp:∀x t1,mk x→D1.find x=some t1→∃t,D.find x=some t∧sig t=sig t1
structure OB (hold:Nat→Nat) (mk:Int→Prop) (D1 D:Wd):Prop where
 v:RV hold mk D1 D
 ph:D.phase=3
 fi:0≤D.field
 cu:0≤D.cursor
 em:∀t,t∈D.live→t.mr.dead=false→¬mk ((t.h:Int)+1)→∀i:Nat,i<t.pt.length→(t.h:Int)<D.cursor∨((t.h:Int)=D.cursor∧(i:Int)<D.field)→nth t.pt i=0
 cl:∀t,t∈D.live→t.mr.dead=false→¬mk ((t.h:Int)+1)→D.cursor≤(t.h:Int)→t.mr.color≠D.parity
section
variable {D D' D2 D1:Wd} {t t1 u v:Th} {r x y q:Int} {hold:Nat→Nat} {mk:Int→Prop} {fl:List Int} {N i:Nat}
theorem kQ(h:sig t=sig u):t.h=u.h∧t.pt=u.pt∧t.dt=u.dt∧t.lv=u.lv∧t.mr.color=u.mr.color:=by
 unfold sig at h
 injection h with e1 h
 injection h with e2 h
 injection h with e3 h
 injection h with e4 e5
 exact⟨e1,e2,e3,e4,e5⟩
theorem RV.alive(B:QF hold mk D1)(V:RV hold mk D1 D)(hx:mk x)(hf:D.find x=some t):t.mr.dead=false:=by
 cases hd:t.mr.dead with
 |false=>rfl
 |true=>
  exfalso
  obtain⟨htl,e⟩:=find_live hf
  have h1:=V.nam.zer t htl hd
  have h2:=V.nam.cnt t htl
  rcases B.h3 x hx with⟨b,hb,h0⟩|⟨y,t1,i,hy,hf1,hi,hn⟩
  ·have eb:t.h=b:=by omega
   rw[eb] at h2
   omega
  ·obtain⟨ty,hty,es⟩:=V.kp y t1 hy hf1
   obtain⟨_,ep,_⟩:=kQ es
   have h3:fI ((t.h:Int)+1) ty≤au (fI ((t.h:Int)+1)) D.ts:=rz (φ:=fI ((t.h:Int)+1)) (find_live hty).1
   have h4:0<fI ((t.h:Int)+1) ty:=by
    unfold fI
    rw[ep]
    exact pR hi (by rw[hn,e])
   omega
theorem RV.keep(V:RV hold mk D1 D)(S:San D')(Nm:fP hold D')(P:di 0 D')(O:Out hold D')(K:KA r D D')(hr:¬mk r):RV hold mk D1 D':=
 ⟨S,Nm,P,O,K.par.trans V.par,fun x t1 hx h1=>by
  obtain⟨t,ht,e⟩:=V.kp x t1 hx h1
  obtain⟨s,hs,e2⟩:=K.MR (fun e=>hr (e▸hx)) ht
  exact⟨s,hs,e2.trans e⟩⟩
theorem RV.step(B:QF hold mk D1)(V:RV hold mk D1 D):RV hold mk D1 D.step:=by
 obtain⟨r,h1,h2,K⟩:=KA.step V.san
 obtain⟨p1,p2⟩:=LY V.pos V.nam V.san
 refine V.keep V.san.step (V.nam.step V.san) p1 (fun b hb=> ?_) K (fun hm=> ?_)
 ·refine Classical.byContradiction fun h0=> ?_
  obtain⟨t,ht,hd,htl,e⟩:=zY V.san V.nam V.out (b:=b) (by omega)
  rcases p2 t htl with⟨s,hs,e2⟩|hd2
  ·exact hb s hs (e2.trans e)
  ·rw[hd] at hd2
   cases hd2
 ·obtain⟨t1,hf1,_⟩:=B.h2 r hm
  obtain⟨t,ht,_⟩:=V.kp r t1 hm hf1
  have:=V.alive B hm ht
  rw[h1 t ht] at this
  cases this
theorem OB.reap(B:QF hold mk D1)(L:OB hold mk D1 D)(hb:D.reapB=true):OB hold mk D1 D.reap:=by
 have S:=L.v.san
 have hS':=S.reap L.fi
 have hN':=L.v.nam.reap S L.fi
 have hP':=L.v.pos.reap L.v.nam S L.fi
 have hO':Out hold D.reap:=fun b hb2=>L.v.out b (fun t ht e=>by
  obtain⟨s,k1,k2⟩:=aQ (NR L.fi) ht
  exact hb2 s k1 (k2.trans e))
 have hs:=LB (D:=D)
 have hps:=hs.1.trans L.ph
 have hfi:=hs.2.2.1 L.fi
 have hcu:=hs.2.2.2 L.cu
 unfold Wd.reap at hS' hN' hP' hO' hps hfi hcu ⊢
 rw[hb,if_pos rfl] at hS' hN' hP' hO' hps hfi hcu ⊢
 unfold Wd.reapAt at hS' hN' hP' hO' hps hfi hcu ⊢
 cases hf:D.find (D.cursor+1) with
 |none=>
  rw[hf] at hS' hN' hP' hO' hps hfi hcu
  simp only at hS' hN' hP' hO' hps hfi hcu ⊢
  refine⟨⟨hS',hN',hP',hO',L.v.par,L.v.kp⟩,hps,hfi,hcu,fun t ht hd hm i hi h=> ?_,fun t ht hd hm h=>L.cl t ht hd hm (by have h:D.cursor+1≤(t.h:Int):=h;omega)⟩
  have h:(t.h:Int)<D.cursor+1∨((t.h:Int)=D.cursor+1∧(i:Int)<0):=h
  rcases h with h|h
  ·by_cases e:(t.h:Int)=D.cursor
   ·have:=S.findIt (show t∈D.live from ht)
    rw[e,hf] at this
    cases this
   ·exact L.em t ht hd hm i hi (.inl (by omega))
  ·omega
 |some s=>
  rw[hf] at hS' hN' hP' hO' hps hfi hcu
  simp only at hS' hN' hP' hO' hps hfi hcu ⊢
  obtain⟨hsl,hse⟩:=find_live hf
  by_cases hdb:s.mr.dead=true∨s.mr.color=D.parity
  ·rw[if_pos hdb] at hS' hN' hP' hO' hps hfi hcu ⊢
   refine⟨⟨hS',hN',hP',hO',L.v.par,L.v.kp⟩,hps,hfi,hcu,fun t ht hd hm i hi h=> ?_,fun t ht hd hm h=>L.cl t ht hd hm (by have h:D.cursor+1≤(t.h:Int):=h;omega)⟩
   have h:(t.h:Int)<D.cursor+1∨((t.h:Int)=D.cursor+1∧(i:Int)<0):=h
   have ht:t∈D.live:=ht
   rcases h with h|h
   ·by_cases e:(t.h:Int)=D.cursor
    ·exfalso
     have e2:t=s:=S.sS hsl ht (by omega)
     rcases hdb with h1|h1
     ·rw[e2] at hd
      rw[hd] at h1
      cases h1
     ·exact L.cl t ht hd hm (by omega) (e2▸h1)
    ·exact L.em t ht hd hm i hi (.inl (by omega))
   ·omega
  ·rw[if_neg hdb] at hS' hN' hP' hO' hps hfi hcu ⊢
   have hsd:s.mr.dead=false:=by cases h:s.mr.dead;rfl;exact absurd (.inl h) hdb
   have hsc:s.mr.color≠D.parity:=fun h=>hdb (.inr h)
   have hnm:¬mk (D.cursor+1):=fun hm=>by
    obtain⟨t1,h1,h2⟩:=B.h2 _ hm
    obtain⟨t,ht,e⟩:=L.v.kp _ t1 hm h1
    rw[hf] at ht
    cases ht
    exact hsc ((kQ e).2.2.2.2.trans (h2.trans L.v.par.symm))
   by_cases hff:D.field<(s.pt.length:Int)
   ·rw[if_pos hff] at hS' hN' hP' hO' hps hfi hcu ⊢
    have K:=KA.empt (D.cursor+1) D D.field.toNat (nth s.pt D.field.toNat)
    obtain⟨s',hs1,hs2⟩:=MO hf (by have:=L.cu;omega) D.field.toNat (nth s.pt D.field.toNat)
    have hsp:(D.empt (D.cursor+1) D.field.toNat (nth s.pt D.field.toNat)).parity=D.parity:=K.par
    generalize D.empt (D.cursor+1) D.field.toNat (nth s.pt D.field.toNat)=E at*
    have K2:KA (D.cursor+1) D (E.move D.cursor (D.field+1)):=K.trans (KA.ts _ rfl rfl)
    have hfs:(E.move D.cursor (D.field+1)).find (D.cursor+1)=some s':=hs1
    obtain⟨eh,ep,_,_,ec⟩:=kQ hs2
    refine⟨L.v.keep hS' hN' hP' hO' K2 hnm,hps,hfi,hcu,fun t ht hd hm i hi h=> ?_,fun t ht hd hm h=> ?_⟩
    ·have h:(t.h:Int)<D.cursor∨((t.h:Int)=D.cursor∧(i:Int)<D.field+1):=h
     have hft:=hS'.findIt ht
     by_cases e:(t.h:Int)=D.cursor
     ·rw[e,hfs] at hft
      cases hft
      have ep:s'.pt=s.pt.set D.field.toNat 0:=ep
      rw[ep] at hi ⊢
      rw[List.length_set] at hi
      have hcl:D.field.toNat<s.pt.length:=by have:=L.fi;omega
      unfold nth
      by_cases e2:i=D.field.toNat
      ·rw[e2]
       simp[List.getD,hcl]
      ·have:=L.em s hsl hsd (by rw[hse];exact hnm) i hi (.inr ⟨by omega,by omega⟩)
       unfold nth at this
       simp only[List.getD] at this ⊢
       rw[List.getElem?_set_ne (Ne.symm e2)]
       exact this
     ·have hne:((t.h:Int)+1)≠D.cursor+1:=by omega
      obtain⟨u,hu,es⟩:=K2.back hne hft
      have hud:=K2.dm _ u t hne hu hft hd
      obtain⟨eh2,ep2,_⟩:=kQ es
      rw[ep2] at hi ⊢
      exact L.em u (find_live hu).1 hud (by rw[←eh2];exact hm) i hi (.inl (by rw[←eh2];omega))
    ·have h:D.cursor≤(t.h:Int):=h
     have hft:=hS'.findIt ht
     show t.mr.color≠E.parity
     rw[hsp]
     by_cases e:(t.h:Int)=D.cursor
     ·rw[e,hfs] at hft
      cases hft
      rw[ec]
      exact hsc
     ·have hne:((t.h:Int)+1)≠D.cursor+1:=by omega
      obtain⟨u,hu,es⟩:=K2.back hne hft
      have hud:=K2.dm _ u t hne hu hft hd
      obtain⟨eh2,_,_,_,ec2⟩:=kQ es
      rw[ec2]
      exact L.cl u (find_live hu).1 hud (by rw[←eh2];exact hm) (by rw[←eh2];exact h)
   ·rw[if_neg hff] at hS' hN' hP' hO' hps hfi hcu ⊢
    have K:KA (D.cursor+1) D (D.paint (D.cursor+1)):=KA.upd (D.cursor+1) D (g:=fun t=>{t with mr:={t.mr with color:=D.parity}}) (fun _=>⟨rfl,rfl⟩) rfl rfl
    have hfs:(D.paint (D.cursor+1)).find (D.cursor+1)=some {s with mr:={s.mr with color:=D.parity}}:=mark_find (D:=D) (r:=D.cursor+1) (fun m=>{m with color:=D.parity}) hf
    have hsp:(D.paint (D.cursor+1)).parity=D.parity:=rfl
    generalize D.paint (D.cursor+1)=E at*
    have K2:KA (D.cursor+1) D (E.move (D.cursor+1) 0):=K.trans (KA.ts _ rfl rfl)
    have hfs:(E.move (D.cursor+1) 0).find (D.cursor+1)=some {s with mr:={s.mr with color:=D.parity}}:=hfs
    refine⟨L.v.keep hS' hN' hP' hO' K2 hnm,hps,hfi,hcu,fun t ht hd hm i hi h=> ?_,fun t ht hd hm h=> ?_⟩
    ·have h:(t.h:Int)<D.cursor+1∨((t.h:Int)=D.cursor+1∧(i:Int)<0):=h
     have hft:=hS'.findIt ht
     by_cases e:(t.h:Int)=D.cursor
     ·rw[e,hfs] at hft
      cases hft
      exact L.em s hsl hsd (by rw[hse];exact hnm) i hi (.inr ⟨by omega,by have hi:i<s.pt.length:=hi;omega⟩)
     ·have hne:((t.h:Int)+1)≠D.cursor+1:=by omega
      obtain⟨u,hu,es⟩:=K2.back hne hft
      have hud:=K2.dm _ u t hne hu hft hd
      obtain⟨eh2,ep2,_⟩:=kQ es
      rw[ep2] at hi ⊢
      exact L.em u (find_live hu).1 hud (by rw[←eh2];exact hm) i hi (.inl (by rw[←eh2];omega))
    ·have h:D.cursor+1≤(t.h:Int):=h
     have hft:=hS'.findIt ht
     show t.mr.color≠E.parity
     rw[hsp]
     have hne:((t.h:Int)+1)≠D.cursor+1:=by omega
     obtain⟨u,hu,es⟩:=K2.back hne hft
     have hud:=K2.dm _ u t hne hu hft hd
     obtain⟨eh2,_,_,_,ec2⟩:=kQ es
     rw[ec2]
     exact L.cl u (find_live hu).1 hud (by rw[←eh2];exact hm) (by rw[←eh2];omega)
def Qt(mk:Int→Prop)(D:Wd):Prop:=∀t,t∈D.live→t.mr.dead=false→¬mk ((t.h:Int)+1)→∀i:Nat,i<t.pt.length→nth t.pt i=0
theorem OB.Kq(L:OB hold mk D1 D)(hn:D.n=N)(hb:D.reapB=false)(hlt:∀t,t∈D.live→t.h<N):Qt mk D:=fun t ht hd hm i hi=>by
 have hc:(N:Int)≤D.cursor:=by
  unfold Wd.reapB at hb
  rw[decide_eq_true L.ph,hn] at hb
  simp at hb
  exact hb
 exact L.em t ht hd hm i hi (.inl (by have:=hlt t ht;omega))
theorem Qt.step(S:San D)(E:Qt mk D):Qt mk D.step:=fun t ht hd hm i hi=>by
 obtain⟨r,h1,h2,K⟩:=KA.step S
 have hft:=S.step.findIt ht
 by_cases e:(t.h:Int)+1=r
 ·have:=h2 t (e▸hft)
  rw[hd] at this
  cases this
 ·obtain⟨u,hu,es⟩:=K.back e hft
  have hud:=K.dm _ u t e hu hft hd
  obtain⟨eh2,ep2,_⟩:=kQ es
  rw[ep2] at hi ⊢
  exact E u (find_live hu).1 hud (by rw[←eh2];exact hm) i hi
theorem RV.fin(B:QF hold mk D1)(V:RV hold mk D1 D)(E:Qt mk D)(hg:D.grave=[])(ht:t∈D.live):mk ((t.h:Int)+1)∧t.mr.dead=false:=by
 have hal:∀u,u∈D.live→u.mr.dead=false:=fun u hu=>by
  cases h:u.mr.dead with
  |false=>rfl
  |true=>
   have:=(V.san.ok u hu).iff_.1 h
   rw[hg] at this
   simp at this
 refine⟨Classical.byContradiction fun hm=> ?_,hal t ht⟩
 have h0:=V.pos t ht (hal t ht) (by omega)
 have h1:=V.nam.cnt t ht
 have h2:hold t.h=0:=by
  refine Classical.byContradiction fun h=>hm (B.h1 t.h (by omega))
 have h3:au (fI ((t.h:Int)+1)) D.ts=0:=jN (fun v hv=>by
  unfold fI
  refine rO (fun i hi e=> ?_)
  by_cases hmv:mk ((v.h:Int)+1)
  ·obtain⟨t1,hf1,_⟩:=B.h2 _ hmv
   obtain⟨v2,hv2,es⟩:=V.kp _ t1 hmv hf1
   rw[V.san.findIt (show v∈D.live from hv)] at hv2
   cases hv2
   obtain⟨_,ep,_⟩:=kQ es
   rw[ep] at hi e
   have:=B.h4 _ t1 hmv hf1 i hi (by rw[e];omega)
   rw[e] at this
   exact hm this
  ·have:=E v hv (hal v hv) hmv i hi
   rw[e] at this
   omega)
 omega
end
def Kp{α:Type}(φ:Th→α)(D D':Wd):Prop:=∀q,(D'.find q).map φ=(D.find q).map φ
section
variable {α:Type} {φ:Th→α} {D D' D2:Wd} {t:Th} {q r:Int}
theorem Kp.refl(φ:Th→α)(D:Wd):Kp φ D D:=fun _=>rfl
theorem Kp.trans(h:Kp φ D D')(k:Kp φ D' D2):Kp φ D D2:=fun q=>(k q).trans (h q)
theorem Kp.ts(h:D'.ts=D.ts):Kp φ D D':=fun q=>by unfold Wd.find;rw[h]
theorem Kp.upd(r:Int){g:Th→Th}(hg:∀t,(g t).ended=t.ended∧(g t).h=t.h)(hφ:∀t,φ (g t)=φ t)(hD:D'.ts=bz r g D.ts):Kp φ D D':=fun q=>by
 have h1:=iy (g:=g) hg (r:=r) q D.ts
 unfold Wd.find
 rw[hD,h1]
 cases aP q D.ts with
 |none=>rfl
 |some t=>
  simp only[Option.map_some]
  split
  ·rw[hφ]
  ·rfl
theorem Kp.mark(hm:∀t m,φ {t with mr:=m}=φ t)(D:Wd)(z:Int)(f:Mrk→Mrk):Kp φ D (D.mark z f):=Kp.upd z (g:=fun t=>{t with mr:=f t.mr}) (fun _=>⟨rfl,rfl⟩) (fun t=>hm t _) rfl
theorem Kp.touch(hm:∀t m,φ {t with mr:=m}=φ t)(D:Wd)(r:Int):Kp φ D (D.touch r):=by
 rcases iO (D:=D) r with h|h
 ·exact Kp.ts h
 ·exact(Kp.mark hm D r (fun m=>{m with color:=D.parity})).trans (Kp.ts h)
theorem Kp.tally(hm:∀t m,φ {t with mr:=m}=φ t)(D:Wd):Kp φ D D.tally:=by
 unfold Wd.tally
 split
 ·unfold Wd.dV
  split
  ·exact Kp.ts rfl
  ·split
   ·exact Kp.ts rfl
   ·split
    ·exact(Kp.mark hm D _ (fun m=>{m with shade:=D.parity,shadow:=D.dP _+1})).trans (Kp.ts rfl)
    ·exact(Kp.mark hm D _ (fun m=>{m with count:=D.parity})).trans (Kp.ts rfl)
 ·exact Kp.refl φ D
theorem Kp.aT(hm:∀t m,φ {t with mr:=m}=φ t)(S:San D):Kp φ D D.aT:=
 kX (P:=Kp φ D) S (Kp.refl φ D) (fun E r _ h=>h.trans (Kp.mark hm E r (fun m=>{m with shade:=E.parity,shadow:=E.dP r}))) (fun E r _ h=>h.trans (Kp.touch hm E r)) (fun E E' h e _ _ _ _ _ _=>h.trans (Kp.ts e))
theorem Kp.bury(hm:∀t m,φ {t with mr:=m}=φ t)(D:Wd)(x:Int):Kp φ D (D.bury x):=by
 unfold Wd.bury
 split
 ·exact Kp.refl φ D
 ·rename_i t hf
  split
  ·exact Kp.refl φ D
  ·exact Kp.upd x (g:=fun s=>{s with mr:={s.mr with dead:=true,left:=(t.pt.length:Int),leaves:=(t.lv.length:Int)}}) (fun _=>⟨rfl,rfl⟩) (fun s=>hm s _) (gI x t)
theorem Kp.drain(hm:∀t m,φ {t with mr:=m}=φ t)(hs:∀t i,φ {t with pt:=t.pt.set i 0}=φ t)(D:Wd)(r:Int)(i:Nat)(x:Int):Kp φ D (D.drain r i x):=by
 have h0:Kp φ D (D.setP r i 0):=Kp.upd r (g:=fun t=>{t with pt:=t.pt.set i 0}) (fun _=>⟨rfl,rfl⟩) (fun t=>hs t i) rfl
 have key:∀E,Kp φ D E→Kp φ D (if(E.down x).cnt x=0 then(E.down x).bury x else E.down x):=fun E h=>by
  have h1:Kp φ D (E.down x):=h.trans (Kp.mark hm E x (fun m=>{m with refs:=m.refs-1}))
  split
  ·exact h1.trans (Kp.bury hm _ x)
  ·exact h1
 unfold Wd.drain
 split
 ·exact h0
 ·refine key _ ?_
  split
  ·unfold Wd.aC
   split
   ·exact h0.trans (Kp.mark hm _ x (fun m=>{m with shadow:=m.shadow-1}))
   ·exact h0
  ·exact h0
theorem Kp.reap(hm:∀t m,φ {t with mr:=m}=φ t)(hs:∀t i,φ {t with pt:=t.pt.set i 0}=φ t)(hF:0≤D.field):Kp φ D D.reap:=
 lF (P:=Kp φ D) hF (Kp.refl φ D) (fun E x y h=>h.trans (Kp.ts rfl)) (fun r=>Kp.mark hm D r _) (fun r t i _ _ _=>Kp.drain hm hs D r i _)
theorem Kp.ak(hm:∀t m,φ {t with mr:=m}=φ t):∀(n:Nat) (D:Wd),Kp φ D (ak n D)
 |0,D=>Kp.refl φ D
 |n+1,D=>(Kp.ak hm n D).trans (Kp.tally hm _)
theorem lX(S:San D):∀n:Nat,San (aL n D)
 |0=>S
 |n+1=>(lX S n).aT
theorem Kp.aL(hm:∀t m,φ {t with mr:=m}=φ t)(S:San D):∀n:Nat,Kp φ D (aL n D)
 |0=>Kp.refl φ D
 |n+1=>(Kp.aL hm S n).trans (Kp.aT hm (lX S n))
theorem Kp.some(h:Kp φ D D')(hf:D'.find q=some t):∃u,D.find q=some u∧φ t=φ u:=by
 have:=h q
 rw[hf] at this
 cases hu:D.find q with
 |none=>rw[hu] at this;cases this
 |some u=>
  rw[hu] at this
  simp only[Option.map_some] at this
  injection this with this
  exact⟨u,rfl,this⟩
end
def sF(t:Th):Nat:=t.pt.length
theorem Kp.oZ{φ:Th→Nat}{D D':Wd}(h:Kp φ D D')(x:Int):oZ φ D' x=oZ φ D x:=by
 have:=h x
 unfold Pk.oZ
 cases h1:D'.find x with
 |none=>
  rw[h1] at this
  cases h2:D.find x with
  |none=>rfl
  |some t=>rw[h2] at this;cases this
 |some t=>
  rw[h1] at this
  cases h2:D.find x with
  |none=>rw[h2] at this;cases this
  |some u=>
   rw[h2] at this
   simp only[Option.map_some] at this
   injection this
theorem Kp.gU{φ:Th→Nat}{D D':Wd}(h:Kp φ D D'):∀k,gU φ D' k=gU φ D k
 |0=>rfl
 |k+1=>by
  show Pk.gU φ D' k+Pk.oZ φ D' _=Pk.gU φ D k+Pk.oZ φ D _
  rw[Kp.gU h k,h.oZ]
def RP(N B s:Nat)(D:Wd):Prop:=∃k:Nat,D.cursor=(k:Int)∧k≤N∧0≤D.field∧D.field.toNat≤oZ sF D ((k:Int)+1)∧(k=N→D.field=0)∧s+(N-k)+gU sF D N≤B+gU sF D k+D.field.toNat
section
variable {D:Wd} {N B s:Nat}
theorem RP.start(h:N+gU sF D N≤B)(hc:D.cursor=0)(hf:D.field=0):RP N B 0 D:=by
 refine⟨0,hc,Nat.zero_le _,by omega,by rw[hf];exact Nat.zero_le _,fun _=>hf,?_⟩
 show 0+(N-0)+gU sF D N≤B+0+D.field.toNat
 omega
theorem RP.le(h:RP N B s D):s≤B:=by
 obtain⟨k,_,h2,h3,h4,h5,h6⟩:=h
 by_cases e:k=N
 ·have:=h5 e
  subst e
  rw[this] at h6
  simp at h6
  omega
 ·have h7:=Oh sF D (show k+1≤N by omega)
  have h8:gU sF D (k+1)=gU sF D k+oZ sF D ((k:Int)+1):=rfl
  omega
theorem RP.step(h:RP N B s D)(hn:D.n=N)(hb:D.reapB=true):RP N B (s+1) D.reap:=by
 obtain⟨k,h1,h2,h3,h4,h5,h6⟩:=h
 have K:Kp sF D D.reap:=Kp.reap (fun _ _=>rfl) (fun t i=>by unfold sF;simp) h3
 have hk:k<N:=by
  unfold Wd.reapB at hb
  simp at hb
  omega
 have h8:gU sF D (k+1)=gU sF D k+oZ sF D ((k:Int)+1):=rfl
 have mv:∀E:Wd,(∀j,gU sF E j=gU sF D j)→E.cursor=(k:Int)+1→E.field=0→D.field.toNat+0=D.field.toNat→RP N B (s+1) E:=fun E hE hc hf _=>by
  refine⟨k+1,by rw[hc];omega,by omega,by omega,by rw[hf];exact Nat.zero_le _,fun _=>hf,?_⟩
  rw[hE,hE,hf]
  show s+1+(N-(k+1))+gU sF D N≤B+gU sF D (k+1)+0
  omega
 have hS:=K.gU
 have hA:=K.oZ
 unfold Wd.reap at hS hA ⊢
 rw[if_pos hb] at hS hA ⊢
 unfold Wd.reapAt at hS hA ⊢
 have e1:D.find (D.cursor+1)=D.find ((k:Int)+1):=by rw[h1]
 cases hf:D.find (D.cursor+1) with
 |none=>
  rw[hf] at hS hA
  exact mv _ hS (by show D.cursor+1=_;omega) rfl rfl
 |some t=>
  rw[hf] at hS hA
  dsimp only at hS hA ⊢
  split
  ·rename_i hd
   rw[if_pos hd] at hS
   exact mv _ hS (by show D.cursor+1=_;omega) rfl rfl
  ·rename_i hd
   rw[if_neg hd] at hS hA
   split
   ·rename_i hl
    rw[if_pos hl] at hS hA
    have ha:oZ sF D ((k:Int)+1)=t.pt.length:=by
     unfold oZ
     rw[←e1,hf]
     rfl
    refine⟨k,h1,h2,by show 0≤D.field+1;omega,?_,fun e=>by omega,?_⟩
    ·rw[hA,ha]
     show(D.field+1).toNat≤_
     omega
    ·rw[hS,hS]
     show s+1+(N-k)+gU sF D N≤B+gU sF D k+(D.field+1).toNat
     omega
   ·rename_i hl
    rw[if_neg hl] at hS
    exact mv _ hS (by show D.cursor+1=_;omega) rfl rfl
end
end Go.Proofs.YtjmifnljckmimaaGreat.Pk
