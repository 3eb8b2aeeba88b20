/-
  Texts laid together: RefG3, RefG4, RefG5, RefG6, RefG7.
-/
import Derived.Test.YtjmifnljckmimaaGreatGravNamEtc
import Derived.Test.YtjmifnljckmimaaGreatRingDoEtc
import Derived.RegionTactic
import Derived.Deep.RegionWith
import Derived.Test.YtjmifnljckmimaaGreatRefMkEtc
namespace Go.Proofs.YtjmifnljckmimaaGreat.Pk
open Lib (hid)
open Go.RowKit
set_option linter.unusedVariables false
set_option linter.unusedSimpArgs false
set_option maxRecDepth 100000
section
variable {w w':World} {lo:Nat} {lab:Nat→Nat} {a:WA} {D:Wd} {i:Nat} {t t':Th} {x:TA} {n v b:Nat} {cl:List Nat} {ts:List Th}
theorem WAt.rep{q:Nat}(h:WAt w lo lab a D)(e:a.q=q):WRep w lo q D:=⟨lab,a,e,h⟩
theorem WAt.tbHb(h:WAt w lo lab a D)(ht:D.ts[i]? =some t)(hx:a.tas[i]? =some x):¬x.tb=a.hb∧¬a.hb=x.tb∧¬x.tb=a.q∧¬a.q=x.tb∧¬x.tb=x.mb∧¬x.mb=x.tb:=by
 have h1:=(h.h.th i t x ht hx).ltb.2
 have h2:=h.h.lh.2
 have h3:=h.lq.2
 have h4:=(h.mb i t x ht hx).2.2
 refine⟨fun e=> ?_,fun e=> ?_,fun e=> ?_,fun e=> ?_,fun e=> ?_,fun e=> ?_⟩<;>(have:=congrArg lab e;omega)
theorem mark_at{r:Int}(f:Mrk→Mrk)(hi:D.ix r=some i)(ht:D.ts[i]? =some t):(D.mark r f).ix r=some i∧(D.mark r f).ts[i]? =some {t with mr:=f t.mr}:=by
 have hl:=(List.getElem?_eq_some_iff.1 ht).1
 rw[Gq f hi ht]
 refine⟨?_,by simp[hl]⟩
 obtain⟨u,hu,ha,hn⟩:=nR hi
 rw[ht] at hu
 cases hu
 refine zQ (t:={t with mr:=f t.mr}) (by simp[hl]) ha (fun j u hj hu=> ?_)
 rw[List.getElem?_set_ne (by omega)] at hu
 exact hn j u hj hu
theorem Jh(h:WAt w lo lab a D){r:Int}(hn:D.buryB r=false)(h0:D.cnt r=0):
  Calls Tryz.prog 60 #[.pointer (some ⟨a.q,0,none⟩),.int .i64 r] w (WEnd w lo a.q (D.bury r) (.bool (D.buryB r))):=by
 have E:Hid (D.bury r=D):=hid (by
  unfold Wd.buryB at hn
  unfold Wd.bury
  cases hf:D.find r with
  |none=>rfl
  |some t=>rw[hf] at hn;simp only at hn ⊢;rw[if_pos (by simpa using hn)])
 have E2:=hid hn
 cases hf:D.find r with
 |none=>
  have HC:=hid (w_of_no h hf)
  have H:=hid h
  clear h hf hn h0
  go_enter Tryz.func60,Tryz.ntmps60
  go_wp2_with fail
  refine HC.out.mono ?_
  rintro e w1 ⟨rfl,rfl⟩
  go_wp2_with fail
  go_ret
  exact⟨by rw[E2.out];rfl,by rw[E.out];exact⟨lab,a,rfl,H.out⟩,Touch.refl _ _⟩
 |some t=>
  obtain⟨i,x,hi,ht,hx⟩:=h.found hf
  have hd:t.mr.dead=true:=by
   unfold Wd.buryB at hn
   rw[hf] at hn
   simpa using hn
  have HC:=hid (w_of_yes h hi hx)
  have m5:=h.m5 ht hx
  have m0:=h.m0 ht hx
  rw[hd] at m5
  have H:=hid h
  clear h hf hn h0 hi ht hx hd
  go_enter Tryz.func60,Tryz.ntmps60
  go_wp2_with fail
  refine HC.out.mono ?_
  rintro e w1 ⟨rfl,rfl⟩
  go_wp2_with fail
  go_ret
  exact⟨by rw[E2.out];rfl,by rw[E.out];exact⟨lab,a,rfl,H.out⟩,Touch.refl _ _⟩
theorem lay_scan{r:Int}(h:D.scan=r):D.lay r t={(({(D.kill r).lessRing t.h with scan:=0}:Wd).mark r (fun m=>{m with left:=(t.pt.length:Int)})).mark r (fun m=>{m with leaves:=(t.lv.length:Int)}) with grave:=D.grave++[t.h+1],pending:=D.pending+1+(t.lv.length:Int)}:=by
 unfold Wd.lay
 rw[if_pos h,Int.add_assoc]
theorem lay_noscan{r:Int}(h:¬D.scan=r):D.lay r t={(((D.kill r).lessRing t.h).mark r (fun m=>{m with left:=(t.pt.length:Int)})).mark r (fun m=>{m with leaves:=(t.lv.length:Int)}) with grave:=D.grave++[t.h+1],pending:=D.pending+1+(t.lv.length:Int)}:=by
 unfold Wd.lay
 rw[if_neg h,Int.add_assoc]
 rfl
set_option maxHeartbeats 2000000 in
theorem Ef(h:WAt w lo lab a D){r:Int}(hf:D.find r=some t)(hd:t.mr.dead=false)(h0:t.mr.refs=0)(hs:D.scan=r)(hrl:D.ring.length≤8000)(hgl:D.grave.length≤8000)(hp0:0≤D.pending)(hp1:D.pending≤4294900000)(hll:t.lv.length≤1000):
  Calls Tryz.prog 60 #[.pointer (some ⟨a.q,0,none⟩),.int .i64 r] w (WEnd w lo a.q (D.lay r t) (.bool true)):=by
 obtain⟨i,x,hi,ht,hx⟩:=h.found hf
 obtain⟨_,_,hrt⟩:=find_at hf
 have hbd:=h.h.bd t (List.mem_of_getElem? ht)
 have HC:=hid (w_of_yes h hi hx)
 have HFi:=hid (fun w' (h':WAt w' lo lab a D)=>h_find_yes h' hi hx)
 have m5:=h.m5 ht hx
 have m0:=h.m0 ht hx
 rw[hd] at m5
 rw[h0] at m0
 have hwr:IntKind.i64.wrap (r-1)=(t.h:Int):=by rw[show r-1=(t.h:Int) by omega];exact IntWalk.i64_in _ (by omega)
 have hw1:IntKind.i64.wrap (D.pending+1)=D.pending+1:=IntWalk.i64_in _ (by omega)
 have hw2:IntKind.i64.wrap (D.pending+1+(t.lv.length:Int))=D.pending+1+(t.lv.length:Int):=IntWalk.i64_in _ (by omega)
 have hsc:(D.scan==r)=true:=eq_b hs
 have HRC:Hid (((t.h+1:Nat):Int)=r):=hid (by omega)
 obtain⟨n1,n2⟩:=h.ne ht hx
 obtain⟨k1,k2,k3,k4,k5,k6⟩:=h.tbHb ht hx
 have H:=hid h
 have HI:=hid hi
 have HT:=hid ht
 have HX:=hid hx
 have HRl:=hid hrl
 have HGl:=hid hgl
 have HS:=hid hs
 have c0:=h.c0
 clear h hf hi ht hx hd h0 hrt hbd hrl hgl hs
 go_enter Tryz.func60,Tryz.ntmps60
 go_wp2_with fail
 refine HC.out.mono ?_
 rintro e w1 ⟨rfl,rfl⟩
 go_wp2_with fail
 refine(HFi.out _ H.out).mono ?_
 rintro e w1 ⟨rfl,hw⟩
 have H1:Hid (WAt w1 lo lab a D):=hid (hw▸H.out)
 have T1:Hid (Touch (fun b=>lo≤b) w w1):=hid (hw▸Touch.refl _ _)
 clear hw m5 m0 c0
 have c11:=H1.out.c11
 have m5:=H1.out.m5 HT.out HX.out
 have f5:=(H1.out.mb i t x HT.out HX.out).1.free 5
 have HK:Hid (WAt (w1.setCell ⟨x.mb,5,none⟩ (.bool true)) lo lab a (D.kill r)):=hid (H1.out.setM (f:=fun m=>{m with dead:=true}) HI.out HT.out HX.out (k:=5) (u:=.bool true) rfl)
 have HKT:=hid (T1.out.trans (Jz H1.out HT.out HX.out 5 (.bool true)))
 have HA1:=hid (mark_at (fun m=>{m with dead:=true}) HI.out HT.out)
 go_wp2_with fail
 generalize hw2:World.setCell _ _ _=w2 at*
 have H2:Hid (WAt w2 lo lab a (D.kill r)):=hid HK.out
 have T2:=hid HKT.out
 clear hw2 HK HKT H1 T1 c11 m5 f5
 have HWo:=hid (rWithout a.ra a.rc D.ring (D.ring.filter (fun b=>b !=t.h)) (t.h:Int) w2 H2.out.rg (by have:=HRl.out;omega) (ints_filter _ _))
 refine HWo.out.mono ?_
 rintro e w3 ⟨ra,rc,rfl,hr,hf,hb⟩
 obtain⟨lab3,k⟩:=H2.out.ringNew hb rc hr hf
 have H3:Hid (WAt (w3.setCell ⟨a.q,11,none⟩ (.slice ra (D.ring.filter (fun b=>b !=t.h)).length rc)) lo lab3 {a with ra:=ra,rc:=rc} ((D.kill r).lessRing t.h)):=hid k
 have T3:=hid ((T2.out.trans (Touch.of_below hb)).setCell (p:=⟨a.q,11,none⟩) (fun _=>H2.out.lq.1) (.slice ra (D.ring.filter (fun b=>b !=t.h)).length rc))
 have H2b:Hid (WAt w3 lo lab a (D.kill r)):=hid (H2.out.later hb)
 clear k hr hf hb HWo
 have q11:=H2b.out.c11
 have q6:w3.cell? ⟨a.q,6,none⟩=some (.int .i64 D.scan):=H2b.out.c6
 have q12:w3.cell? ⟨a.q,12,none⟩=some (.slice a.ga D.grave.length a.gc):=H2b.out.c12
 have f11:=H2b.out.wb.free 11
 have f6:=H2b.out.wb.free 6
 have y2:=(H2b.out.h.th i _ x HA1.out.2 HX.out).c2
 have y1:=(H2b.out.h.th i _ x HA1.out.2 HX.out).c1
 have y6:=(H2b.out.mb i _ x HA1.out.2 HX.out).1.cell 6 rfl
 have y7:=(H2b.out.mb i _ x HA1.out.2 HX.out).1.cell 7 rfl
 have g6:=(H2b.out.mb i _ x HA1.out.2 HX.out).1.free 6
 have g7:=(H2b.out.mb i _ x HA1.out.2 HX.out).1.free 7
 go_wp2_with fail
 generalize hw4:World.setCell (World.setCell (World.setCell (World.setCell _ _ _) _ _) _ _) _ _=w4 at*
 have HA2:=hid (mark_at (D:=({(D.kill r).lessRing t.h with scan:=0}:Wd)) (fun m=>{m with left:=(t.pt.length:Int)}) HA1.out.1 HA1.out.2)
 have HA3:=hid (mark_at (D:=({(D.kill r).lessRing t.h with scan:=0}:Wd).mark r (fun m=>{m with left:=(t.pt.length:Int)})) (fun m=>{m with leaves:=(t.lv.length:Int)}) HA2.out.1 HA2.out.2)
 have H4:Hid (WAt w4 lo lab3 {a with ra:=ra,rc:=rc} ((({(D.kill r).lessRing t.h with scan:=0}:Wd).mark r (fun m=>{m with left:=(t.pt.length:Int)})).mark r (fun m=>{m with leaves:=(t.lv.length:Int)}))):=hid (hw4▸((H3.out.setNum (D':={(D.kill r).lessRing t.h with scan:=0}) (k:=6) (u:=.int .i64 0) rfl rfl rfl rfl rfl rfl rfl).setM (i:=i) (x:=x) (f:=fun m=>{m with left:=(t.pt.length:Int)}) HA1.out.1 HA1.out.2 HX.out (k:=6) (u:=.int .i64 (t.pt.length:Int)) rfl).setM (i:=i) (x:=x) (f:=fun m=>{m with leaves:=(t.lv.length:Int)}) HA2.out.1 HA2.out.2 HX.out (k:=7) (u:=.int .i64 (t.lv.length:Int)) rfl)
 have T4:Hid (Touch (fun b=>lo≤b) w w4):=hid (hw4▸((T3.out.setCell (p:=⟨a.q,6,none⟩) (fun _=>H2.out.lq.1) (.int .i64 0)).setCell (p:=⟨x.mb,6,none⟩) (fun _=>(H2b.out.mb i _ x HA1.out.2 HX.out).2.1) _).setCell (p:=⟨x.mb,7,none⟩) (fun _=>(H2b.out.mb i _ x HA1.out.2 HX.out).2.1) _)
 have HLay:=hid (lay_scan HS.out (t:=t))
 clear hw4 q11 q6 q12 f11 f6 y2 y1 y6 y7 g6 g7 H3 T3 H2b H2
 have c12:w4.cell? ⟨a.q,12,none⟩=some (.slice a.ga D.grave.length a.gc):=H4.out.c12
 have HBe:=hid (rBehind a.ga a.gc D.grave (t.h+1) w4 H4.out.gv (by have:=HGl.out;omega))
 rw[HRC.out] at HBe
 refine HBe.out.mono ?_
 rintro e w5 ⟨ga,gc,rfl,hr,hf,hb⟩
 obtain⟨lab5,k⟩:=H4.out.graveNew hb gc hr hf
 rw[show(D.grave++[t.h+1]).length=D.grave.length+1 by simp] at k
 have H4b:=hid (H4.out.later hb)
 have H5:=hid (k.setNum (k:=13) (u:=.int .i64 (D.pending+1+(t.lv.length:Int))) (D':=D.lay r t) (by rw[HLay.out];rfl) (by rw[HLay.out]) (by rw[HLay.out]) (by rw[HLay.out]) (by rw[HLay.out]) (by rw[HLay.out]) (by rw[HLay.out]))
 have T5:=hid (((T4.out.trans (Touch.of_below hb)).setCell (p:=⟨a.q,12,none⟩) (fun _=>H4.out.lq.1) (.slice ga (D.grave.length+1) gc)).setCell (p:=⟨a.q,13,none⟩) (fun _=>H4.out.lq.1) (.int .i64 (D.pending+1+(t.lv.length:Int))))
 clear k hr hf hb HBe c12
 have q12:=H4b.out.c12
 have q13:w5.cell? ⟨a.q,13,none⟩=some (.int .i64 D.pending):=H4b.out.c13
 have f12:=H4b.out.wb.free 12
 have f13:=H4b.out.wb.free 13
 have y1:=(H4b.out.h.th i _ x HA3.out.2 HX.out).c1
 go_wp2_with fail
 go_region_with (fail)
 all_goals
  go_wp2_with fail
  go_ret
  exact⟨rfl,H5.out.drew.rep rfl,T5.out.drew⟩
set_option maxHeartbeats 2000000 in
theorem Ee(h:WAt w lo lab a D){r:Int}(hf:D.find r=some t)(hd:t.mr.dead=false)(h0:t.mr.refs=0)(hs:¬D.scan=r)(hrl:D.ring.length≤8000)(hgl:D.grave.length≤8000)(hp0:0≤D.pending)(hp1:D.pending≤4294900000)(hll:t.lv.length≤1000):
  Calls Tryz.prog 60 #[.pointer (some ⟨a.q,0,none⟩),.int .i64 r] w (WEnd w lo a.q (D.lay r t) (.bool true)):=by
 obtain⟨i,x,hi,ht,hx⟩:=h.found hf
 obtain⟨_,_,hrt⟩:=find_at hf
 have hbd:=h.h.bd t (List.mem_of_getElem? ht)
 have HC:=hid (w_of_yes h hi hx)
 have HFi:=hid (fun w' (h':WAt w' lo lab a D)=>h_find_yes h' hi hx)
 have m5:=h.m5 ht hx
 have m0:=h.m0 ht hx
 rw[hd] at m5
 rw[h0] at m0
 have hwr:IntKind.i64.wrap (r-1)=(t.h:Int):=by rw[show r-1=(t.h:Int) by omega];exact IntWalk.i64_in _ (by omega)
 have hw1:IntKind.i64.wrap (D.pending+1)=D.pending+1:=IntWalk.i64_in _ (by omega)
 have hw2:IntKind.i64.wrap (D.pending+1+(t.lv.length:Int))=D.pending+1+(t.lv.length:Int):=IntWalk.i64_in _ (by omega)
 have hsc:(D.scan==r)=false:=neq_b hs
 have HRC:Hid (((t.h+1:Nat):Int)=r):=hid (by omega)
 obtain⟨n1,n2⟩:=h.ne ht hx
 obtain⟨k1,k2,k3,k4,k5,k6⟩:=h.tbHb ht hx
 have H:=hid h
 have HI:=hid hi
 have HT:=hid ht
 have HX:=hid hx
 have HRl:=hid hrl
 have HGl:=hid hgl
 have HS:=hid hs
 have c0:=h.c0
 clear h hf hi ht hx hd h0 hrt hbd hrl hgl hs
 go_enter Tryz.func60,Tryz.ntmps60
 go_wp2_with fail
 refine HC.out.mono ?_
 rintro e w1 ⟨rfl,rfl⟩
 go_wp2_with fail
 refine(HFi.out _ H.out).mono ?_
 rintro e w1 ⟨rfl,hw⟩
 have H1:Hid (WAt w1 lo lab a D):=hid (hw▸H.out)
 have T1:Hid (Touch (fun b=>lo≤b) w w1):=hid (hw▸Touch.refl _ _)
 clear hw m5 m0 c0
 have c11:=H1.out.c11
 have m5:=H1.out.m5 HT.out HX.out
 have f5:=(H1.out.mb i t x HT.out HX.out).1.free 5
 have HK:Hid (WAt (w1.setCell ⟨x.mb,5,none⟩ (.bool true)) lo lab a (D.kill r)):=hid (H1.out.setM (f:=fun m=>{m with dead:=true}) HI.out HT.out HX.out (k:=5) (u:=.bool true) rfl)
 have HKT:=hid (T1.out.trans (Jz H1.out HT.out HX.out 5 (.bool true)))
 have HA1:=hid (mark_at (fun m=>{m with dead:=true}) HI.out HT.out)
 go_wp2_with fail
 generalize hw2:World.setCell _ _ _=w2 at*
 have H2:Hid (WAt w2 lo lab a (D.kill r)):=hid HK.out
 have T2:=hid HKT.out
 clear hw2 HK HKT H1 T1 c11 m5 f5
 have HWo:=hid (rWithout a.ra a.rc D.ring (D.ring.filter (fun b=>b !=t.h)) (t.h:Int) w2 H2.out.rg (by have:=HRl.out;omega) (ints_filter _ _))
 refine HWo.out.mono ?_
 rintro e w3 ⟨ra,rc,rfl,hr,hf,hb⟩
 obtain⟨lab3,k⟩:=H2.out.ringNew hb rc hr hf
 have H3:Hid (WAt (w3.setCell ⟨a.q,11,none⟩ (.slice ra (D.ring.filter (fun b=>b !=t.h)).length rc)) lo lab3 {a with ra:=ra,rc:=rc} ((D.kill r).lessRing t.h)):=hid k
 have T3:=hid ((T2.out.trans (Touch.of_below hb)).setCell (p:=⟨a.q,11,none⟩) (fun _=>H2.out.lq.1) (.slice ra (D.ring.filter (fun b=>b !=t.h)).length rc))
 have H2b:Hid (WAt w3 lo lab a (D.kill r)):=hid (H2.out.later hb)
 clear k hr hf hb HWo
 have q11:=H2b.out.c11
 have q6:w3.cell? ⟨a.q,6,none⟩=some (.int .i64 D.scan):=H2b.out.c6
 have q12:w3.cell? ⟨a.q,12,none⟩=some (.slice a.ga D.grave.length a.gc):=H2b.out.c12
 have f11:=H2b.out.wb.free 11
 have f6:=H2b.out.wb.free 6
 have y2:=(H2b.out.h.th i _ x HA1.out.2 HX.out).c2
 have y1:=(H2b.out.h.th i _ x HA1.out.2 HX.out).c1
 have y6:=(H2b.out.mb i _ x HA1.out.2 HX.out).1.cell 6 rfl
 have y7:=(H2b.out.mb i _ x HA1.out.2 HX.out).1.cell 7 rfl
 have g6:=(H2b.out.mb i _ x HA1.out.2 HX.out).1.free 6
 have g7:=(H2b.out.mb i _ x HA1.out.2 HX.out).1.free 7
 go_wp2_with fail
 generalize hw4:World.setCell (World.setCell (World.setCell _ _ _) _ _) _ _=w4 at*
 have HA2:=hid (mark_at (D:=((D.kill r).lessRing t.h)) (fun m=>{m with left:=(t.pt.length:Int)}) HA1.out.1 HA1.out.2)
 have HA3:=hid (mark_at (D:=((D.kill r).lessRing t.h).mark r (fun m=>{m with left:=(t.pt.length:Int)})) (fun m=>{m with leaves:=(t.lv.length:Int)}) HA2.out.1 HA2.out.2)
 have H4:Hid (WAt w4 lo lab3 {a with ra:=ra,rc:=rc} ((((D.kill r).lessRing t.h).mark r (fun m=>{m with left:=(t.pt.length:Int)})).mark r (fun m=>{m with leaves:=(t.lv.length:Int)}))):=hid (hw4▸((H3.out).setM (i:=i) (x:=x) (f:=fun m=>{m with left:=(t.pt.length:Int)}) HA1.out.1 HA1.out.2 HX.out (k:=6) (u:=.int .i64 (t.pt.length:Int)) rfl).setM (i:=i) (x:=x) (f:=fun m=>{m with leaves:=(t.lv.length:Int)}) HA2.out.1 HA2.out.2 HX.out (k:=7) (u:=.int .i64 (t.lv.length:Int)) rfl)
 have T4:Hid (Touch (fun b=>lo≤b) w w4):=hid (hw4▸(T3.out.setCell (p:=⟨x.mb,6,none⟩) (fun _=>(H2b.out.mb i _ x HA1.out.2 HX.out).2.1) _).setCell (p:=⟨x.mb,7,none⟩) (fun _=>(H2b.out.mb i _ x HA1.out.2 HX.out).2.1) _)
 have HLay:=hid (lay_noscan HS.out (t:=t))
 clear hw4 q11 q6 q12 f11 f6 y2 y1 y6 y7 g6 g7 H3 T3 H2b H2
 have c12:w4.cell? ⟨a.q,12,none⟩=some (.slice a.ga D.grave.length a.gc):=H4.out.c12
 have HBe:=hid (rBehind a.ga a.gc D.grave (t.h+1) w4 H4.out.gv (by have:=HGl.out;omega))
 rw[HRC.out] at HBe
 refine HBe.out.mono ?_
 rintro e w5 ⟨ga,gc,rfl,hr,hf,hb⟩
 obtain⟨lab5,k⟩:=H4.out.graveNew hb gc hr hf
 rw[show(D.grave++[t.h+1]).length=D.grave.length+1 by simp] at k
 have H4b:=hid (H4.out.later hb)
 have H5:=hid (k.setNum (k:=13) (u:=.int .i64 (D.pending+1+(t.lv.length:Int))) (D':=D.lay r t) (by rw[HLay.out];rfl) (by rw[HLay.out]) (by rw[HLay.out]) (by rw[HLay.out]) (by rw[HLay.out]) (by rw[HLay.out]) (by rw[HLay.out]))
 have T5:=hid (((T4.out.trans (Touch.of_below hb)).setCell (p:=⟨a.q,12,none⟩) (fun _=>H4.out.lq.1) (.slice ga (D.grave.length+1) gc)).setCell (p:=⟨a.q,13,none⟩) (fun _=>H4.out.lq.1) (.int .i64 (D.pending+1+(t.lv.length:Int))))
 clear k hr hf hb HBe c12
 have q12:=H4b.out.c12
 have q13:w5.cell? ⟨a.q,13,none⟩=some (.int .i64 D.pending):=H4b.out.c13
 have f12:=H4b.out.wb.free 12
 have f13:=H4b.out.wb.free 13
 have y1:=(H4b.out.h.th i _ x HA3.out.2 HX.out).c1
 go_wp2_with fail
 go_region_with (fail)
 all_goals
  go_wp2_with fail
  go_ret
  exact⟨rfl,H5.out.drew.rep rfl,T5.out.drew⟩
theorem w_bury(h:WAt w lo lab a D)(r:Int)(h0:D.cnt r=0)(hrl:D.ring.length≤8000)(hgl:D.grave.length≤8000)(hp0:0≤D.pending)(hp1:D.pending≤4294900000)(hll:∀t,D.find r=some t→t.lv.length≤1000):
  Calls Tryz.prog 60 #[.pointer (some ⟨a.q,0,none⟩),.int .i64 r] w (WEnd w lo a.q (D.bury r) (.bool (D.buryB r))):=by
 cases hb:D.buryB r with
 |false=>rw[←hb];exact Jh h hb h0
 |true=>
  unfold Wd.buryB at hb
  unfold Wd.bury
  cases hf:D.find r with
  |none=>rw[hf] at hb;cases hb
  |some t=>
   rw[hf] at hb
   have hd:t.mr.dead=false:=by simpa using hb
   have hr0:t.mr.refs=0:=by unfold Wd.cnt at h0;rw[hf] at h0;exact h0
   simp only
   rw[if_neg (by rw[hd];decide)]
   by_cases hs:D.scan=r
   ·exact Ef h hf hd hr0 hs hrl hgl hp0 hp1 (hll t hf)
   ·exact Ee h hf hd hr0 hs hrl hgl hp0 hp1 (hll t hf)
end
section
variable {w w':World} {lo:Nat} {lab:Nat→Nat} {a:WA} {D:Wd} {i:Nat} {t t' u:Th} {x:TA} {n v b:Nat} {cl:List Nat} {ts:List Th}
structure WB (D:Wd):Prop where
 rl:D.ring.length≤8000
 gl:D.grave.length≤8000
 cl:D.clean.length≤7000
 p0:0≤D.pending
 p1:D.pending≤4294900000
 ll:∀r t,D.find r=some t→t.lv.length≤1000
 rf:∀r t,D.find r=some t→0≤t.mr.refs∧t.mr.refs≤4294967295
 sh:∀r t,D.find r=some t→0≤t.mr.shadow∧t.mr.shadow≤4294967295
theorem WB.bury(B:WB D)(h:WAt w lo lab a D)(r:Int)(h0:D.cnt r=0):Calls Tryz.prog 60 #[.pointer (some ⟨a.q,0,none⟩),.int .i64 r] w (WEnd w lo a.q (D.bury r) (.bool (D.buryB r))):=
 w_bury h r h0 B.rl B.gl B.p0 B.p1 (B.ll r)
theorem WB.mark(B:WB D)(r:Int)(f:Mrk→Mrk)(h1:∀t,D.find r=some t→0≤(f t.mr).refs∧(f t.mr).refs≤4294967295)(h2:∀t,D.find r=some t→0≤(f t.mr).shadow∧(f t.mr).shadow≤4294967295):WB (D.mark r f):=by
 have key:∀q s,(D.mark r f).find q=some s→∃t,D.find q=some t∧(s=t∨(D.find r=some t∧s={t with mr:=f t.mr})):=fun q s hs=>by
  rw[find_mark] at hs
  cases hq:D.find q with
  |none=>rw[hq] at hs;cases hs
  |some t=>
   rw[hq] at hs
   simp only[Option.map_some,Option.some.injEq] at hs
   refine⟨t,rfl,?_⟩
   by_cases e:t.at r=true
   ·rw[if_pos e] at hs
    have hr:q=r:=by
     have:=(find_live hq).2
     unfold Th.at at e
     simp at e
     omega
    exact .inr ⟨by rw[←hr];exact hq,hs.symm⟩
   ·rw[if_neg e] at hs
    exact .inl hs.symm
 refine⟨B.rl,B.gl,B.cl,B.p0,B.p1,fun q s hs=> ?_,fun q s hs=> ?_,fun q s hs=> ?_⟩
 ·obtain⟨t,ht,rfl|⟨_,rfl⟩⟩:=key q s hs
  ·exact B.ll q _ ht
  ·exact B.ll q t ht
 ·obtain⟨t,ht,rfl|⟨k,rfl⟩⟩:=key q s hs
  ·exact B.rf q _ ht
  ·exact h1 t k
 ·obtain⟨t,ht,rfl|⟨k,rfl⟩⟩:=key q s hs
  ·exact B.sh q _ ht
  ·exact h2 t k
theorem WB.keep(B:WB D)(r:Int)(f:Mrk→Mrk)(h1:∀m,(f m).refs=m.refs)(h2:∀m,(f m).shadow=m.shadow):WB (D.mark r f):=
 B.mark r f (fun t ht=>by rw[h1];exact B.rf r t ht) (fun t ht=>by rw[h2];exact B.sh r t ht)
theorem WB.setP(B:WB D)(r:Int)(i:Nat)(x:Int):WB (D.setP r i x):=by
 have key:∀q s,(D.setP r i x).find q=some s→∃t,D.find q=some t∧s.lv=t.lv∧s.mr=t.mr:=fun q s hs=>by
  rw[oN] at hs
  cases hq:D.find q with
  |none=>rw[hq] at hs;cases hs
  |some t=>
   rw[hq] at hs
   simp only[Option.map_some,Option.some.injEq] at hs
   refine⟨t,rfl,?_⟩
   subst hs
   split<;>exact⟨rfl,rfl⟩
 refine⟨B.rl,B.gl,B.cl,B.p0,B.p1,fun q s hs=> ?_,fun q s hs=> ?_,fun q s hs=> ?_⟩
 ·obtain⟨t,ht,e,_⟩:=key q s hs;rw[e];exact B.ll q t ht
 ·obtain⟨t,ht,_,e⟩:=key q s hs;rw[e];exact B.rf q t ht
 ·obtain⟨t,ht,_,e⟩:=key q s hs;rw[e];exact B.sh q t ht
theorem WB.down(B:WB D){r:Int}(hf:D.find r=some t)(h0:0<t.mr.refs):WB (D.down r):=
 B.mark r _ (fun u hu=>by rw[hf] at hu;cases hu;have:=B.rf r t hf;show 0≤t.mr.refs-1∧t.mr.refs-1≤_;omega) (fun u hu=>B.sh r u hu)
theorem WB.up(B:WB D){r:Int}(hb:∀t,D.find r=some t→t.mr.refs<4294967295):WB (D.up r):=
 B.mark r _ (fun u hu=>by have h1:=B.rf r u hu;have h2:=hb u hu;show 0≤u.mr.refs+1∧u.mr.refs+1≤_;omega) (fun u hu=>B.sh r u hu)
theorem WB.sus(B:WB D):WB D.sus:=⟨B.rl,B.gl,B.cl,B.p0,B.p1,B.ll,B.rf,B.sh⟩
theorem WB.touch(B:WB D)(r:Int)(hr:D.ring.length≤7000):WB (D.touch r):=by
 unfold Wd.touch
 split
 ·have k:=B.keep r (fun m=>{m with color:=D.parity}) (fun _=>rfl) (fun _=>rfl)
  refine⟨?_,k.gl,k.cl,k.p0,k.p1,k.ll,k.rf,k.sh⟩
  show(if hasB (ints D.ring) (r-1) then D.ring else D.ring++[(r-1).toNat]).length≤8000
  split
  ·omega
  ·simp;omega
 ·exact B
end
section
variable {w w':World} {lo:Nat} {lab:Nat→Nat} {a:WA} {D D':Wd} {i:Nat} {t t' u:Th} {x:TA} {n v b:Nat} {cl:List Nat} {ts:List Th}
theorem WB.shd(B:WB D)(r:Int):0≤D.shd r∧D.shd r≤4294967295:=by
 unfold Wd.shd
 cases hf:D.find r with
 |none=>simp
 |some t=>
  have:=B.sh r t hf
  simp only
  split<;>omega
theorem WB.lighten(B:WB D)(x:Int):WB (D.lighten x):=by
 unfold Wd.lighten
 split
 ·rename_i hl
  refine B.mark x _ (fun t ht=>B.rf x t ht) (fun t ht=> ?_)
  have h1:=B.sh x t ht
  unfold Wd.lighter at hl
  simp at hl
  have h2:=hl.2
  unfold Wd.shd at h2
  rw[ht] at h2
  show 0≤t.mr.shadow-1∧t.mr.shadow-1≤_
  by_cases hs:t.mr.shade=D.parity
  ·simp[hs] at h2;omega
  ·simp[hs] at h2
 ·exact B
end
section
variable {w w':World} {lo:Nat} {lab:Nat→Nat} {a:WA} {D D':Wd} {i:Nat} {t t' u:Th} {x:TA} {n v b:Nat} {cl:List Nat} {ts:List Th}
theorem WB.pend(B:WB D){z:Int}(h0:0≤z)(h1:z≤4294900000):WB {D with pending:=z}:=⟨B.rl,B.gl,B.cl,h0,h1,B.ll,B.rf,B.sh⟩
end
theorem Ku(P:Nat→World→Prop):∃μ:World→Nat,∀wr n,P n wr→P (μ wr) wr∧μ wr≤n:=by
 have h:∀wr,∃m,∀n,P n wr→P m wr∧m≤n:=fun wr=>by
  by_cases hx:∃n,P n wr
  ·obtain⟨n,hn⟩:=hx
   induction n using Nat.strongRecOn with
   |ind n ih=>
    by_cases hy:∃k,k<n∧P k wr
    ·obtain⟨k,hk,hp⟩:=hy
     exact ih k hk hp
    ·exact⟨n,fun k hk=>⟨hn,by
      by_cases hlt:k<n
      ·exact absurd ⟨k,hlt,hk⟩ hy
      ·omega⟩⟩
  ·exact⟨0,fun n hn=>absurd ⟨n,hn⟩ hx⟩
 exact⟨fun wr=>Classical.choose (h wr),fun wr=>Classical.choose_spec (h wr)⟩
section
variable {w w':World} {lo q:Nat} {lab:Nat→Nat} {a:WA} {D D':Wd} {i:Nat} {t t' u:Th} {x:TA} {n v b:Nat} {cl:List Nat} {ts:List Th}
theorem WRep.c12(h:WRep w lo q D):∃ga gc,w.cell? ⟨q,12,none⟩=some (.slice ga D.grave.length gc):=by
 obtain⟨lab,a,rfl,k⟩:=h
 exact⟨_,_,k.c12⟩
end
end Go.Proofs.YtjmifnljckmimaaGreat.Pk
