/-
  Texts laid together: RefG3, RefG4, RefG5, RefG6.
-/
import Derived.Test.YtjmifnljckmimaaGreatGravNamEtc
import Derived.Test.YtjmifnljckmimaaGreatPoolDoEtc
import Derived.RegionTactic
import Derived.Deep.RegionWith
namespace Go.Proofs.YtjmifnljckmimaaGreat.Pk
open Lib (hid)
open Go.RowKit
set_option linter.unusedVariables false
set_option linter.unusedSimpArgs false
set_option maxRecDepth 100000
section
variable {w w':World} {lo:Nat} {lab:Nat→Nat} {a:WA} {D:Wd} {i:Nat} {t t':Th} {x:TA} {n v b:Nat} {cl:List Nat} {ts:List Th}
theorem az.nE{q:Nat}(h:az w lo lab a D)(e:a.q=q):bT w lo q D:=⟨lab,a,e,h⟩
theorem az.zH(h:az w lo lab a D)(ht:D.ts[i]? =some t)(hx:a.tas[i]? =some x):¬x.tb=a.hb∧¬a.hb=x.tb∧¬x.tb=a.q∧¬a.q=x.tb∧¬x.tb=x.mb∧¬x.mb=x.tb:=by
 have h1:=(h.h.th i t x ht hx).ltb.2
 have h2:=h.h.lh.2
 have h3:=h.lq.2
 have h4:=(h.mb i t x ht hx).2.2
 refine⟨fun e=> ?_,fun e=> ?_,fun e=> ?_,fun e=> ?_,fun e=> ?_,fun e=> ?_⟩<;>(have:=congrArg lab e;omega)
theorem mg{r:Int}{f:Th→Th}(hi:D.ix r=some i)(ht:D.ts[i]? =some t):D.upd r f={D with ts:=D.ts.set i (f t)}:=by
 unfold Wd.upd
 rw[yM hi ht]
set_option maxHeartbeats 1000000 in
theorem Vn(h:az w lo lab a D){r:Int}(hf:D.find r=some t){j b:Nat}(hj:t.lv[j]? =some (b:Int))(hl:D.clean.length≤8000):
  Calls Tryz.prog 105 #[.pointer (some ⟨a.hb,0,none⟩),.int .i64 r,.int .i64 (j:Int)] w (wY w lo a (D.gV r j b) (.bool true)):=by
 obtain⟨i,x,hi,ht,hx⟩:=h.found hf
 have hT:=h.h.th i t x ht hx
 have hjl:=(List.getElem?_eq_some_iff.1 hj).1
 have hnj:nth t.lv j=(b:Int):=by unfold nth;rw[List.getD_eq_getElem?_getD,hj];rfl
 have HC:=hid (aY h hi hx)
 have c2:=h.h.c2
 have d1:=hT.c1
 obtain⟨g,hla,hg,gc,gf,glo,gs⟩:=h.Tc ht hx hjl
 rw[hnj] at gc
 rw[hla] at d1
 have glab:=(hT.lla (by omega) g 0 hla).2.2
 obtain⟨n1,n2,n3,n4,n5,n6⟩:=h.zH ht hx
 have n7:¬g=a.hb:=fun e=>by have:=congrArg lab e;have:=h.h.lh.2;omega
 have n8:¬a.hb=g:=fun e=>n7 e.symm
 have H:=hid h
 have HL:=hid hl
 have E:Hid (∀w5 lab' a',a'.tas=a.tas→az w5 lo lab' a' {D with clean:=b::D.clean}→az (w5.setCell ⟨g,j,none⟩ (.int .i64 (-1))) lo lab' a' (D.gV r j b)):=hid (fun w5 lab' a' e k=>by
  obtain⟨g',hla',_,_,_,_,gs'⟩:=k.Tc (i:=i) (t:=t) (x:=x) ht (by rw[e];exact hx) hjl
  rw[hla] at hla'
  cases hla'
  have:=gs' (-1)
  rw[show D.gV r j b={({D with clean:=b::D.clean}:Wd) with ts:=D.ts.set i {t with lv:=t.lv.set j (-1)}} by unfold Wd.gV;rw[mg hi ht]]
  exact this)
 have hb0:¬(b:Int)<0:=by omega
 have hj0:¬(j:Int)<0:=by omega
 have fz:=h.h.hb.free 2
 have HB2:=hid h.h.hb.lt
 have HB1:=hid hT.tb.lt
 have HB3:=hid hg
 have HGl:=hid glo
 clear h hf hi ht hx hT hj hnj gs hla hl glab
 go_enter Tryz.func105,Tryz.ntmps105
 go_wp2_with fail
 refine HC.out.mono ?_
 rintro e w1 ⟨rfl,rfl⟩
 have HB0:Hid (Below w.heap.size w w):=hid (Below.refl _ _)
 have hcur:Below w.heap.size w w.drew:=dK.new ⟨1,rfl⟩
 have H1:=hid H.out
 have HCl:Hid (∀w5,Below w.heap.size w w5→w5.cell? ⟨a.hb,2,none⟩=some (.slice a.ca D.clean.length a.cc)∧w5.cell? ⟨x.tb,1,none⟩=some (.slice (some ⟨g,0,none⟩) t.lv.length x.lc)∧w5.cell? ⟨g,j,none⟩=some (.int .i64 (b:Int))∧w5.frozen? ⟨a.hb,2,none⟩=false∧w5.frozen? ⟨g,j,none⟩=false):=hid (fun w5 hb=>by
  have hs:=HB0.out.size
  have fa:=H1.out.h.hb.free 2
  have fg:w.frozen? ⟨g,j,none⟩=false:=(HB0.out.frozen (p:=⟨g,j,none⟩) HB3.out).trans gf
  exact⟨(hb.cell (p:=⟨a.hb,2,none⟩) (Nat.lt_of_lt_of_le HB2.out hs)).trans c2,(hb.cell (p:=⟨x.tb,1,none⟩) (Nat.lt_of_lt_of_le HB1.out hs)).trans d1,(hb.cell (p:=⟨g,j,none⟩) (Nat.lt_of_lt_of_le HB3.out hs)).trans gc,(hb.frozen (p:=⟨a.hb,2,none⟩) (Nat.lt_of_lt_of_le HB2.out hs)).trans fa,(hb.frozen (p:=⟨g,j,none⟩) (Nat.lt_of_lt_of_le HB3.out hs)).trans fg⟩)
 clear gf fz
 go_wp2_with fail
 have HW2:Hid (az w.drew lo lab a D):=hid H.out.drew
 go_region_with (first|(go_at_call 171;refine(Pp a.ca a.cc D.clean b _ HW2.out.h.crow (by have:=HL.out;omega)).mono ?_;rintro e w5 ⟨ca,cc,rfl,hr,hf,hb⟩;have y2:=(HCl.out _ (below_step hcur hb)).1;have y1:=(HCl.out _ (below_step hcur hb)).2.1;have yc:=(HCl.out _ (below_step hcur hb)).2.2.1;have f2:=(HCl.out _ (below_step hcur hb)).2.2.2.1;have fg:=(HCl.out _ (below_step hcur hb)).2.2.2.2;have HW:=hid (HW2.out.Ec hb cc hr hf);have HT5:Hid (Touch (fun b=>lo≤b) w w5):=hid ((Touch.of_below hcur).trans (Touch.of_below hb));clear hr hf hb))
 all_goals
  clear c2 d1 gc hcur
  go_wp2_with fail
  go_ret
  obtain⟨lab',k⟩:=HW.out
  exact⟨rfl,⟨lab',{a with ca:=ca,cc:=cc},rfl,rfl,rfl,E.out _ _ {a with ca:=ca,cc:=cc} rfl k⟩,(HT5.out.setCell (p:=⟨a.hb,2,none⟩) (fun _=>H.out.h.lh.1) _).setCell (p:=⟨g,j,none⟩) (fun _=>HGl.out) _⟩
set_option maxHeartbeats 1000000 in
theorem Vo(h:az w lo lab a D){r:Int}(hf:D.find r=some t)(hl:D.clean.length≤8000):
  Calls Tryz.prog 107 #[.pointer (some ⟨a.hb,0,none⟩),.int .i64 r] w (wY w lo a (D.ky r t.h) (.bool true)):=by
 obtain⟨i,x,hi,ht,hx⟩:=h.found hf
 have hT:=h.h.th i t x ht hx
 have HC:=hid (aY h hi hx)
 have c2:=h.h.c2
 have d0:=hT.c0
 obtain⟨n1,n2,n3,n4,n5,n6⟩:=h.zH ht hx
 have H:=hid h
 have HL:=hid hl
 have E:Hid (∀w5 lab' a',a'.tas=a.tas→az w5 lo lab' a' {D with clean:=t.h::D.clean}→az (w5.setCell ⟨x.tb,4,none⟩ (.bool true)) lo lab' a' (D.ky r t.h)):=hid (fun w5 lab' a' e k=>by
  have gs':=k.Us (i:=i) (t:=t) (x:=x) ht (by rw[e];exact hx)
  rw[show D.ky r t.h={({D with clean:=t.h::D.clean}:Wd) with ts:=D.ts.set i {t with ended:=true}} by unfold Wd.ky;rw[mg hi ht]]
  exact gs')
 have HB2:=hid h.h.hb.lt
 have HB1:=hid hT.tb.lt
 have HF1:=hid (hT.tb.free 4)
 have HC4:=hid hT.c4
 have HGl:=hid hT.ltb.1
 have hcur:Below w.heap.size w w.drew:=dK.new ⟨1,rfl⟩
 have HCl:Hid (∀w5,Below w.heap.size w w5→w5.cell? ⟨a.hb,2,none⟩=some (.slice a.ca D.clean.length a.cc)∧w5.cell? ⟨x.tb,0,none⟩=some (.int .i64 (t.h:Int))∧w5.frozen? ⟨a.hb,2,none⟩=false∧w5.frozen? ⟨x.tb,4,none⟩=false∧w5.cell? ⟨x.tb,4,none⟩=some (.bool t.ended)):=hid (fun w5 hb=>
  ⟨(hb.cell (p:=⟨a.hb,2,none⟩) HB2.out).trans c2,(hb.cell (p:=⟨x.tb,0,none⟩) HB1.out).trans d0,(hb.frozen (p:=⟨a.hb,2,none⟩) HB2.out).trans (H.out.h.hb.free 2),(hb.frozen (p:=⟨x.tb,4,none⟩) HB1.out).trans HF1.out,(hb.cell (p:=⟨x.tb,4,none⟩) HB1.out).trans HC4.out⟩)
 clear h hf hi ht hx hT hl
 go_enter Tryz.func107,Tryz.ntmps107
 go_wp2_with fail
 refine HC.out.mono ?_
 rintro e w1 ⟨rfl,rfl⟩
 go_wp2_with fail
 have HW2:Hid (az w.drew lo lab a D):=hid H.out.drew
 go_region_with (first|(go_at_call 171;refine(Pp a.ca a.cc D.clean t.h _ HW2.out.h.crow (by have:=HL.out;omega)).mono ?_;rintro e w5 ⟨ca,cc,rfl,hr,hf,hb⟩;have y2:=(HCl.out _ (below_step hcur hb)).1;have y0:=(HCl.out _ (below_step hcur hb)).2.1;have f2:=(HCl.out _ (below_step hcur hb)).2.2.1;have f4:=(HCl.out _ (below_step hcur hb)).2.2.2.1;have d4:=(HCl.out _ (below_step hcur hb)).2.2.2.2;have HW:=hid (HW2.out.Ec hb cc hr hf);have HT5:Hid (Touch (fun b=>lo≤b) w w5):=hid ((Touch.of_below hcur).trans (Touch.of_below hb));clear hr hf hb))
 all_goals
  clear c2 d0 hcur
  go_wp2_with fail
  go_ret
  obtain⟨lab',k⟩:=HW.out
  exact⟨rfl,⟨lab',{a with ca:=ca,cc:=cc},rfl,rfl,rfl,E.out _ _ {a with ca:=ca,cc:=cc} rfl k⟩,(HT5.out.setCell (p:=⟨a.hb,2,none⟩) (fun _=>H.out.h.lh.1) _).setCell (p:=⟨x.tb,4,none⟩) (fun _=>HGl.out) _⟩
theorem iJ{r:Int}(f:cz→cz)(hi:D.ix r=some i)(ht:D.ts[i]? =some t):(D.mark r f).ix r=some i∧(D.mark r f).ts[i]? =some {t with mr:=f t.mr}:=by
 have hl:=(List.getElem?_eq_some_iff.1 ht).1
 rw[wO f hi ht]
 refine⟨?_,by simp[hl]⟩
 obtain⟨u,hu,ha,hn⟩:=lN hi
 rw[ht] at hu
 cases hu
 refine xI (t:={t with mr:=f t.mr}) (by simp[hl]) ha (fun j u hj hu=> ?_)
 rw[List.getElem?_set_ne (by omega)] at hu
 exact hn j u hj hu
theorem MP(h:az w lo lab a D){r:Int}(hn:D.gU r=false)(h0:D.cnt r=0):
  Calls Tryz.prog 60 #[.pointer (some ⟨a.q,0,none⟩),.int .i64 r] w (dW w lo a.q (D.bU r) (.bool (D.gU r))):=by
 have E:Hid (D.bU r=D):=hid (by
  unfold Wd.gU at hn
  unfold Wd.bU
  cases hf:D.find r with
  |none=>rfl
  |some t=>rw[hf] at hn;simp only at hn ⊢;rw[if_pos (by simpa using hn)])
 have E2:=hid hn
 cases hf:D.find r with
 |none=>
  have HC:=hid (gY h hf)
  have H:=hid h
  clear h hf hn h0
  go_enter Tryz.func60,Tryz.ntmps60
  go_wp2_with fail
  refine HC.out.mono ?_
  rintro e w1 ⟨rfl,rfl⟩
  go_wp2_with fail
  go_ret
  exact⟨by rw[E2.out];rfl,by rw[E.out];exact⟨lab,a,rfl,H.out⟩,Touch.refl _ _⟩
 |some t=>
  obtain⟨i,x,hi,ht,hx⟩:=h.found hf
  have hd:t.mr.dead=true:=by
   unfold Wd.gU at hn
   rw[hf] at hn
   simpa using hn
  have HC:=hid (aX h hi hx)
  have m5:=h.m5 ht hx
  have m0:=h.m0 ht hx
  rw[hd] at m5
  have H:=hid h
  clear h hf hn h0 hi ht hx hd
  go_enter Tryz.func60,Tryz.ntmps60
  go_wp2_with fail
  refine HC.out.mono ?_
  rintro e w1 ⟨rfl,rfl⟩
  go_wp2_with fail
  go_ret
  exact⟨by rw[E2.out];rfl,by rw[E.out];exact⟨lab,a,rfl,H.out⟩,Touch.refl _ _⟩
theorem EK{r:Int}(h:D.scan=r):D.lay r t={(({(D.kill r).aS t.h with scan:=0}:Wd).mark r (fun m=>{m with left:=(t.pt.length:Int)})).mark r (fun m=>{m with leaves:=(t.lv.length:Int)}) with grave:=D.grave++[t.h+1],pending:=D.pending+1+(t.lv.length:Int)}:=by
 unfold Wd.lay
 rw[if_pos h,Int.add_assoc]
theorem xK{r:Int}(h:¬D.scan=r):D.lay r t={(((D.kill r).aS t.h).mark r (fun m=>{m with left:=(t.pt.length:Int)})).mark r (fun m=>{m with leaves:=(t.lv.length:Int)}) with grave:=D.grave++[t.h+1],pending:=D.pending+1+(t.lv.length:Int)}:=by
 unfold Wd.lay
 rw[if_neg h,Int.add_assoc]
 rfl
set_option maxHeartbeats 2000000 in
theorem GV(h:az w lo lab a D){r:Int}(hf:D.find r=some t)(hd:t.mr.dead=false)(h0:t.mr.refs=0)(hs:D.scan=r)(hrl:D.ring.length≤8000)(hgl:D.grave.length≤8000)(hp0:0≤D.pending)(hp1:D.pending≤4294900000)(hll:t.lv.length≤1000):
  Calls Tryz.prog 60 #[.pointer (some ⟨a.q,0,none⟩),.int .i64 r] w (dW w lo a.q (D.lay r t) (.bool true)):=by
 obtain⟨i,x,hi,ht,hx⟩:=h.found hf
 obtain⟨_,_,hrt⟩:=df hf
 have hbd:=h.h.bd t (List.mem_of_getElem? ht)
 have HC:=hid (aX h hi hx)
 have HFi:=hid (fun w' (h':az w' lo lab a D)=>aY h' hi hx)
 have m5:=h.m5 ht hx
 have m0:=h.m0 ht hx
 rw[hd] at m5
 rw[h0] at m0
 have hwr:IntKind.i64.wrap (r-1)=(t.h:Int):=by rw[show r-1=(t.h:Int) by omega];exact IntWalk.i64_in _ (by omega)
 have hw1:IntKind.i64.wrap (D.pending+1)=D.pending+1:=IntWalk.i64_in _ (by omega)
 have hw2:IntKind.i64.wrap (D.pending+1+(t.lv.length:Int))=D.pending+1+(t.lv.length:Int):=IntWalk.i64_in _ (by omega)
 have hsc:(D.scan==r)=true:=wB hs
 have HRC:Hid (((t.h+1:Nat):Int)=r):=hid (by omega)
 obtain⟨n1,n2⟩:=h.ne ht hx
 obtain⟨k1,k2,k3,k4,k5,k6⟩:=h.zH ht hx
 have H:=hid h
 have HI:=hid hi
 have HT:=hid ht
 have HX:=hid hx
 have HRl:=hid hrl
 have HGl:=hid hgl
 have HS:=hid hs
 have c0:=h.c0
 clear h hf hi ht hx hd h0 hrt hbd hrl hgl hs
 go_enter Tryz.func60,Tryz.ntmps60
 go_wp2_with fail
 refine HC.out.mono ?_
 rintro e w1 ⟨rfl,rfl⟩
 go_wp2_with fail
 refine(HFi.out _ H.out).mono ?_
 rintro e w1 ⟨rfl,hw⟩
 have H1:Hid (az w1 lo lab a D):=hid (hw▸H.out)
 have T1:Hid (Touch (fun b=>lo≤b) w w1):=hid (hw▸Touch.refl _ _)
 clear hw m5 m0 c0
 have c11:=H1.out.c11
 have m5:=H1.out.m5 HT.out HX.out
 have f5:=(H1.out.mb i t x HT.out HX.out).1.free 5
 have HK:Hid (az (w1.setCell ⟨x.mb,5,none⟩ (.bool true)) lo lab a (D.kill r)):=hid (H1.out.kN (f:=fun m=>{m with dead:=true}) HI.out HT.out HX.out (k:=5) (u:=.bool true) rfl)
 have HKT:=hid (T1.out.trans (nT H1.out HT.out HX.out 5 (.bool true)))
 have HA1:=hid (iJ (fun m=>{m with dead:=true}) HI.out HT.out)
 go_wp2_with fail
 generalize hw2:World.setCell _ _ _=w2 at*
 have H2:Hid (az w2 lo lab a (D.kill r)):=hid HK.out
 have T2:=hid HKT.out
 clear hw2 HK HKT H1 T1 c11 m5 f5
 have HWo:=hid (tZ a.ra a.rc D.ring (D.ring.filter (fun b=>b !=t.h)) (t.h:Int) w2 H2.out.rg (by have:=HRl.out;omega) (mF _ _))
 refine HWo.out.mono ?_
 rintro e w3 ⟨ra,rc,rfl,hr,hf,hb⟩
 obtain⟨lab3,k⟩:=H2.out.mQ hb rc hr hf
 have H3:Hid (az (w3.setCell ⟨a.q,11,none⟩ (.slice ra (D.ring.filter (fun b=>b !=t.h)).length rc)) lo lab3 {a with ra:=ra,rc:=rc} ((D.kill r).aS t.h)):=hid k
 have T3:=hid ((T2.out.trans (Touch.of_below hb)).setCell (p:=⟨a.q,11,none⟩) (fun _=>H2.out.lq.1) (.slice ra (D.ring.filter (fun b=>b !=t.h)).length rc))
 have H2b:Hid (az w3 lo lab a (D.kill r)):=hid (H2.out.later hb)
 clear k hr hf hb HWo
 have q11:=H2b.out.c11
 have q6:w3.cell? ⟨a.q,6,none⟩=some (.int .i64 D.scan):=H2b.out.c6
 have q12:w3.cell? ⟨a.q,12,none⟩=some (.slice a.ga D.grave.length a.gc):=H2b.out.c12
 have f11:=H2b.out.wb.free 11
 have f6:=H2b.out.wb.free 6
 have y2:=(H2b.out.h.th i _ x HA1.out.2 HX.out).c2
 have y1:=(H2b.out.h.th i _ x HA1.out.2 HX.out).c1
 have y6:=(H2b.out.mb i _ x HA1.out.2 HX.out).1.cell 6 rfl
 have y7:=(H2b.out.mb i _ x HA1.out.2 HX.out).1.cell 7 rfl
 have g6:=(H2b.out.mb i _ x HA1.out.2 HX.out).1.free 6
 have g7:=(H2b.out.mb i _ x HA1.out.2 HX.out).1.free 7
 go_wp2_with fail
 generalize hw4:World.setCell (World.setCell (World.setCell (World.setCell _ _ _) _ _) _ _) _ _=w4 at*
 have HA2:=hid (iJ (D:=({(D.kill r).aS t.h with scan:=0}:Wd)) (fun m=>{m with left:=(t.pt.length:Int)}) HA1.out.1 HA1.out.2)
 have HA3:=hid (iJ (D:=({(D.kill r).aS t.h with scan:=0}:Wd).mark r (fun m=>{m with left:=(t.pt.length:Int)})) (fun m=>{m with leaves:=(t.lv.length:Int)}) HA2.out.1 HA2.out.2)
 have H4:Hid (az w4 lo lab3 {a with ra:=ra,rc:=rc} ((({(D.kill r).aS t.h with scan:=0}:Wd).mark r (fun m=>{m with left:=(t.pt.length:Int)})).mark r (fun m=>{m with leaves:=(t.lv.length:Int)}))):=hid (hw4▸((H3.out.fI (D':={(D.kill r).aS t.h with scan:=0}) (k:=6) (u:=.int .i64 0) rfl rfl rfl rfl rfl rfl rfl).kN (i:=i) (x:=x) (f:=fun m=>{m with left:=(t.pt.length:Int)}) HA1.out.1 HA1.out.2 HX.out (k:=6) (u:=.int .i64 (t.pt.length:Int)) rfl).kN (i:=i) (x:=x) (f:=fun m=>{m with leaves:=(t.lv.length:Int)}) HA2.out.1 HA2.out.2 HX.out (k:=7) (u:=.int .i64 (t.lv.length:Int)) rfl)
 have T4:Hid (Touch (fun b=>lo≤b) w w4):=hid (hw4▸((T3.out.setCell (p:=⟨a.q,6,none⟩) (fun _=>H2.out.lq.1) (.int .i64 0)).setCell (p:=⟨x.mb,6,none⟩) (fun _=>(H2b.out.mb i _ x HA1.out.2 HX.out).2.1) _).setCell (p:=⟨x.mb,7,none⟩) (fun _=>(H2b.out.mb i _ x HA1.out.2 HX.out).2.1) _)
 have HLay:=hid (EK HS.out (t:=t))
 clear hw4 q11 q6 q12 f11 f6 y2 y1 y6 y7 g6 g7 H3 T3 H2b H2
 have c12:w4.cell? ⟨a.q,12,none⟩=some (.slice a.ga D.grave.length a.gc):=H4.out.c12
 have HBe:=hid (oD a.ga a.gc D.grave (t.h+1) w4 H4.out.gv (by have:=HGl.out;omega))
 rw[HRC.out] at HBe
 refine HBe.out.mono ?_
 rintro e w5 ⟨ga,gc,rfl,hr,hf,hb⟩
 obtain⟨lab5,k⟩:=H4.out.pU hb gc hr hf
 rw[show(D.grave++[t.h+1]).length=D.grave.length+1 by simp] at k
 have H4b:=hid (H4.out.later hb)
 have H5:=hid (k.fI (k:=13) (u:=.int .i64 (D.pending+1+(t.lv.length:Int))) (D':=D.lay r t) (by rw[HLay.out];rfl) (by rw[HLay.out]) (by rw[HLay.out]) (by rw[HLay.out]) (by rw[HLay.out]) (by rw[HLay.out]) (by rw[HLay.out]))
 have T5:=hid (((T4.out.trans (Touch.of_below hb)).setCell (p:=⟨a.q,12,none⟩) (fun _=>H4.out.lq.1) (.slice ga (D.grave.length+1) gc)).setCell (p:=⟨a.q,13,none⟩) (fun _=>H4.out.lq.1) (.int .i64 (D.pending+1+(t.lv.length:Int))))
 clear k hr hf hb HBe c12
 have q12:=H4b.out.c12
 have q13:w5.cell? ⟨a.q,13,none⟩=some (.int .i64 D.pending):=H4b.out.c13
 have f12:=H4b.out.wb.free 12
 have f13:=H4b.out.wb.free 13
 have y1:=(H4b.out.h.th i _ x HA3.out.2 HX.out).c1
 go_wp2_with fail
 go_region_with (fail)
 all_goals
  go_wp2_with fail
  go_ret
  exact⟨rfl,H5.out.drew.nE rfl,T5.out.drew⟩
set_option maxHeartbeats 2000000 in
theorem GU(h:az w lo lab a D){r:Int}(hf:D.find r=some t)(hd:t.mr.dead=false)(h0:t.mr.refs=0)(hs:¬D.scan=r)(hrl:D.ring.length≤8000)(hgl:D.grave.length≤8000)(hp0:0≤D.pending)(hp1:D.pending≤4294900000)(hll:t.lv.length≤1000):
  Calls Tryz.prog 60 #[.pointer (some ⟨a.q,0,none⟩),.int .i64 r] w (dW w lo a.q (D.lay r t) (.bool true)):=by
 obtain⟨i,x,hi,ht,hx⟩:=h.found hf
 obtain⟨_,_,hrt⟩:=df hf
 have hbd:=h.h.bd t (List.mem_of_getElem? ht)
 have HC:=hid (aX h hi hx)
 have HFi:=hid (fun w' (h':az w' lo lab a D)=>aY h' hi hx)
 have m5:=h.m5 ht hx
 have m0:=h.m0 ht hx
 rw[hd] at m5
 rw[h0] at m0
 have hwr:IntKind.i64.wrap (r-1)=(t.h:Int):=by rw[show r-1=(t.h:Int) by omega];exact IntWalk.i64_in _ (by omega)
 have hw1:IntKind.i64.wrap (D.pending+1)=D.pending+1:=IntWalk.i64_in _ (by omega)
 have hw2:IntKind.i64.wrap (D.pending+1+(t.lv.length:Int))=D.pending+1+(t.lv.length:Int):=IntWalk.i64_in _ (by omega)
 have hsc:(D.scan==r)=false:=bL hs
 have HRC:Hid (((t.h+1:Nat):Int)=r):=hid (by omega)
 obtain⟨n1,n2⟩:=h.ne ht hx
 obtain⟨k1,k2,k3,k4,k5,k6⟩:=h.zH ht hx
 have H:=hid h
 have HI:=hid hi
 have HT:=hid ht
 have HX:=hid hx
 have HRl:=hid hrl
 have HGl:=hid hgl
 have HS:=hid hs
 have c0:=h.c0
 clear h hf hi ht hx hd h0 hrt hbd hrl hgl hs
 go_enter Tryz.func60,Tryz.ntmps60
 go_wp2_with fail
 refine HC.out.mono ?_
 rintro e w1 ⟨rfl,rfl⟩
 go_wp2_with fail
 refine(HFi.out _ H.out).mono ?_
 rintro e w1 ⟨rfl,hw⟩
 have H1:Hid (az w1 lo lab a D):=hid (hw▸H.out)
 have T1:Hid (Touch (fun b=>lo≤b) w w1):=hid (hw▸Touch.refl _ _)
 clear hw m5 m0 c0
 have c11:=H1.out.c11
 have m5:=H1.out.m5 HT.out HX.out
 have f5:=(H1.out.mb i t x HT.out HX.out).1.free 5
 have HK:Hid (az (w1.setCell ⟨x.mb,5,none⟩ (.bool true)) lo lab a (D.kill r)):=hid (H1.out.kN (f:=fun m=>{m with dead:=true}) HI.out HT.out HX.out (k:=5) (u:=.bool true) rfl)
 have HKT:=hid (T1.out.trans (nT H1.out HT.out HX.out 5 (.bool true)))
 have HA1:=hid (iJ (fun m=>{m with dead:=true}) HI.out HT.out)
 go_wp2_with fail
 generalize hw2:World.setCell _ _ _=w2 at*
 have H2:Hid (az w2 lo lab a (D.kill r)):=hid HK.out
 have T2:=hid HKT.out
 clear hw2 HK HKT H1 T1 c11 m5 f5
 have HWo:=hid (tZ a.ra a.rc D.ring (D.ring.filter (fun b=>b !=t.h)) (t.h:Int) w2 H2.out.rg (by have:=HRl.out;omega) (mF _ _))
 refine HWo.out.mono ?_
 rintro e w3 ⟨ra,rc,rfl,hr,hf,hb⟩
 obtain⟨lab3,k⟩:=H2.out.mQ hb rc hr hf
 have H3:Hid (az (w3.setCell ⟨a.q,11,none⟩ (.slice ra (D.ring.filter (fun b=>b !=t.h)).length rc)) lo lab3 {a with ra:=ra,rc:=rc} ((D.kill r).aS t.h)):=hid k
 have T3:=hid ((T2.out.trans (Touch.of_below hb)).setCell (p:=⟨a.q,11,none⟩) (fun _=>H2.out.lq.1) (.slice ra (D.ring.filter (fun b=>b !=t.h)).length rc))
 have H2b:Hid (az w3 lo lab a (D.kill r)):=hid (H2.out.later hb)
 clear k hr hf hb HWo
 have q11:=H2b.out.c11
 have q6:w3.cell? ⟨a.q,6,none⟩=some (.int .i64 D.scan):=H2b.out.c6
 have q12:w3.cell? ⟨a.q,12,none⟩=some (.slice a.ga D.grave.length a.gc):=H2b.out.c12
 have f11:=H2b.out.wb.free 11
 have f6:=H2b.out.wb.free 6
 have y2:=(H2b.out.h.th i _ x HA1.out.2 HX.out).c2
 have y1:=(H2b.out.h.th i _ x HA1.out.2 HX.out).c1
 have y6:=(H2b.out.mb i _ x HA1.out.2 HX.out).1.cell 6 rfl
 have y7:=(H2b.out.mb i _ x HA1.out.2 HX.out).1.cell 7 rfl
 have g6:=(H2b.out.mb i _ x HA1.out.2 HX.out).1.free 6
 have g7:=(H2b.out.mb i _ x HA1.out.2 HX.out).1.free 7
 go_wp2_with fail
 generalize hw4:World.setCell (World.setCell (World.setCell _ _ _) _ _) _ _=w4 at*
 have HA2:=hid (iJ (D:=((D.kill r).aS t.h)) (fun m=>{m with left:=(t.pt.length:Int)}) HA1.out.1 HA1.out.2)
 have HA3:=hid (iJ (D:=((D.kill r).aS t.h).mark r (fun m=>{m with left:=(t.pt.length:Int)})) (fun m=>{m with leaves:=(t.lv.length:Int)}) HA2.out.1 HA2.out.2)
 have H4:Hid (az w4 lo lab3 {a with ra:=ra,rc:=rc} ((((D.kill r).aS t.h).mark r (fun m=>{m with left:=(t.pt.length:Int)})).mark r (fun m=>{m with leaves:=(t.lv.length:Int)}))):=hid (hw4▸((H3.out).kN (i:=i) (x:=x) (f:=fun m=>{m with left:=(t.pt.length:Int)}) HA1.out.1 HA1.out.2 HX.out (k:=6) (u:=.int .i64 (t.pt.length:Int)) rfl).kN (i:=i) (x:=x) (f:=fun m=>{m with leaves:=(t.lv.length:Int)}) HA2.out.1 HA2.out.2 HX.out (k:=7) (u:=.int .i64 (t.lv.length:Int)) rfl)
 have T4:Hid (Touch (fun b=>lo≤b) w w4):=hid (hw4▸(T3.out.setCell (p:=⟨x.mb,6,none⟩) (fun _=>(H2b.out.mb i _ x HA1.out.2 HX.out).2.1) _).setCell (p:=⟨x.mb,7,none⟩) (fun _=>(H2b.out.mb i _ x HA1.out.2 HX.out).2.1) _)
 have HLay:=hid (xK HS.out (t:=t))
 clear hw4 q11 q6 q12 f11 f6 y2 y1 y6 y7 g6 g7 H3 T3 H2b H2
 have c12:w4.cell? ⟨a.q,12,none⟩=some (.slice a.ga D.grave.length a.gc):=H4.out.c12
 have HBe:=hid (oD a.ga a.gc D.grave (t.h+1) w4 H4.out.gv (by have:=HGl.out;omega))
 rw[HRC.out] at HBe
 refine HBe.out.mono ?_
 rintro e w5 ⟨ga,gc,rfl,hr,hf,hb⟩
 obtain⟨lab5,k⟩:=H4.out.pU hb gc hr hf
 rw[show(D.grave++[t.h+1]).length=D.grave.length+1 by simp] at k
 have H4b:=hid (H4.out.later hb)
 have H5:=hid (k.fI (k:=13) (u:=.int .i64 (D.pending+1+(t.lv.length:Int))) (D':=D.lay r t) (by rw[HLay.out];rfl) (by rw[HLay.out]) (by rw[HLay.out]) (by rw[HLay.out]) (by rw[HLay.out]) (by rw[HLay.out]) (by rw[HLay.out]))
 have T5:=hid (((T4.out.trans (Touch.of_below hb)).setCell (p:=⟨a.q,12,none⟩) (fun _=>H4.out.lq.1) (.slice ga (D.grave.length+1) gc)).setCell (p:=⟨a.q,13,none⟩) (fun _=>H4.out.lq.1) (.int .i64 (D.pending+1+(t.lv.length:Int))))
 clear k hr hf hb HBe c12
 have q12:=H4b.out.c12
 have q13:w5.cell? ⟨a.q,13,none⟩=some (.int .i64 D.pending):=H4b.out.c13
 have f12:=H4b.out.wb.free 12
 have f13:=H4b.out.wb.free 13
 have y1:=(H4b.out.h.th i _ x HA3.out.2 HX.out).c1
 go_wp2_with fail
 go_region_with (fail)
 all_goals
  go_wp2_with fail
  go_ret
  exact⟨rfl,H5.out.drew.nE rfl,T5.out.drew⟩
theorem Qh(h:az w lo lab a D)(r:Int)(h0:D.cnt r=0)(hrl:D.ring.length≤8000)(hgl:D.grave.length≤8000)(hp0:0≤D.pending)(hp1:D.pending≤4294900000)(hll:∀t,D.find r=some t→t.lv.length≤1000):
  Calls Tryz.prog 60 #[.pointer (some ⟨a.q,0,none⟩),.int .i64 r] w (dW w lo a.q (D.bU r) (.bool (D.gU r))):=by
 cases hb:D.gU r with
 |false=>rw[←hb];exact MP h hb h0
 |true=>
  unfold Wd.gU at hb
  unfold Wd.bU
  cases hf:D.find r with
  |none=>rw[hf] at hb;cases hb
  |some t=>
   rw[hf] at hb
   have hd:t.mr.dead=false:=by simpa using hb
   have hr0:t.mr.refs=0:=by unfold Wd.cnt at h0;rw[hf] at h0;exact h0
   simp only
   rw[if_neg (by rw[hd];decide)]
   by_cases hs:D.scan=r
   ·exact GV h hf hd hr0 hs hrl hgl hp0 hp1 (hll t hf)
   ·exact GU h hf hd hr0 hs hrl hgl hp0 hp1 (hll t hf)
end
section
variable {w w':World} {lo:Nat} {lab:Nat→Nat} {a:WA} {D:Wd} {i:Nat} {t t' u:Th} {x:TA} {n v b:Nat} {cl:List Nat} {ts:List Th}
theorem gW(h:az w lo lab a D)(r:Int):
  Calls Tryz.prog 100 #[.pointer (some ⟨a.q,0,none⟩),.int .i64 r] w fun e w'=>e=.returned (.bool (D.dz r))∧dK w w':=by
 cases hf:D.find r with
 |none=>
  have HC:=hid (gY h hf)
  have E:Hid (D.dz r=false):=hid (pJ hf)
  clear h hf
  go_enter Tryz.func100,Tryz.ntmps100
  go_wp2_with fail
  refine HC.out.mono ?_
  rintro e w1 ⟨rfl,rfl⟩
  go_wp2_with fail
  go_ret
  exact⟨aJ E.out.symm,dK.refl _⟩
 |some t=>
  obtain⟨i,x,hi,ht,hx⟩:=h.found hf
  have HC:=hid (aX h hi hx)
  have E:Hid (D.dz r= !t.mr.dead):=hid (bv hf)
  have m5:=h.m5 ht hx
  clear h hf hi ht hx
  go_enter Tryz.func100,Tryz.ntmps100
  go_wp2_with fail
  refine HC.out.mono ?_
  rintro e w1 ⟨rfl,rfl⟩
  go_wp2_with fail
  go_ret
  exact⟨aJ E.out.symm,dK.refl _⟩
theorem Qr(h:az w lo lab a D)(r:Int)(hl:D.ring.length≤8000):
  Calls Tryz.prog 102 #[.pointer (some ⟨a.q,0,none⟩),.int .i64 r] w (wY w lo a (D.touch r) (.bool (D.aU r))):=by
 cases hf:D.find r with
 |none=>
  have E:Hid (D.aU r=false):=hid (by unfold Wd.aU;rw[hf])
  have HC:=hid (gY h hf)
  have H:=hid h
  clear h hf hl
  go_enter Tryz.func102,Tryz.ntmps102
  go_wp2_with fail
  refine HC.out.mono ?_
  rintro e w1 ⟨rfl,rfl⟩
  go_wp2_with fail
  go_quiet (fail)
  go_wp2_with fail
  go_ret
  exact⟨by rw[E.out];rfl,by rw[fZ E.out];exact⟨lab,a,rfl,rfl,rfl,H.out.dF ⟨_,rfl⟩⟩,Touch.of_below (dK.new ⟨_,rfl⟩)⟩
 |some t=>
  obtain⟨i,x,hi,ht,hx⟩:=h.found hf
  have ET:D.aU r=(!decide (D.phase=0)&& !t.mr.dead&& !decide (t.mr.color=D.parity)):=by unfold Wd.aU;rw[hf]
  obtain⟨_,_,hrt⟩:=df hf
  have hbd:=h.h.bd t (List.mem_of_getElem? ht)
  have HC:=hid (aX h hi hx)
  have c2:=h.c2
  have c3:=h.c3
  have m1:=h.m1 ht hx
  have m5:=h.m5 ht hx
  by_cases hp:D.phase=0
  ·have E:Hid (D.aU r=false):=hid (by rw[ET];simp[hp])
   have H:=hid h
   rw[hp] at c3
   clear h hf hl ET hi ht hx hrt hbd hp
   go_enter Tryz.func102,Tryz.ntmps102
   go_wp2_with fail
   refine HC.out.mono ?_
   rintro e w1 ⟨rfl,rfl⟩
   go_wp2_with fail
   go_quiet (fail)
   go_wp2_with fail
   go_ret
   exact⟨by rw[E.out];rfl,by rw[fZ E.out];exact⟨lab,a,rfl,rfl,rfl,H.out.dF ⟨_,rfl⟩⟩,Touch.of_below (dK.new ⟨_,rfl⟩)⟩
  ·have hpb:=bL hp
   cases hd:t.mr.dead with
   |true=>
    have E:Hid (D.aU r=false):=hid (by rw[ET];simp[hd])
    have H:=hid h
    rw[hd] at m5
    clear h hf hl ET hi ht hx hrt hbd hp hd
    go_enter Tryz.func102,Tryz.ntmps102
    go_wp2_with fail
    refine HC.out.mono ?_
    rintro e w1 ⟨rfl,rfl⟩
    go_wp2_with fail
    go_quiet (fail)
    go_wp2_with fail
    go_ret
    exact⟨by rw[E.out];rfl,by rw[fZ E.out];exact⟨lab,a,rfl,rfl,rfl,H.out.dF ⟨_,rfl⟩⟩,Touch.of_below (dK.new ⟨_,rfl⟩)⟩
   |false=>
    rw[hd] at m5
    by_cases hc:t.mr.color=D.parity
    ·have E:Hid (D.aU r=false):=hid (by rw[ET];simp[hc])
     have H:=hid h
     rw[hc] at m1
     clear h hf hl ET hi ht hx hrt hbd hp hd hc
     go_enter Tryz.func102,Tryz.ntmps102
     go_wp2_with fail
     refine HC.out.mono ?_
     rintro e w1 ⟨rfl,rfl⟩
     go_wp2_with fail
     go_quiet (fail)
     go_wp2_with fail
     go_ret
     exact⟨by rw[E.out];rfl,by rw[fZ E.out];exact⟨lab,a,rfl,rfl,rfl,H.out.dF ⟨_,rfl⟩⟩,Touch.of_below (dK.new ⟨_,rfl⟩)⟩
    ·have E:Hid (D.aU r=true):=hid (by rw[ET];simp[hd,hc,hp])
     have hcb:=bL hc
     have hwr:IntKind.i64.wrap (r-1)=(t.h:Int):=by rw[show r-1=(t.h:Int) by omega];exact IntWalk.i64_in _ (by omega)
     have HRT:Hid (r-1=(t.h:Int)):=hid (by omega)
     have HL:=hid hl
     have H:=hid h
     have HI:=hid hi
     have HT:=hid ht
     have HX:=hid hx
     obtain⟨n1,n2⟩:=h.ne ht hx
     have fz1:=(h.mb i t x ht hx).1.free 1
     have c11:=h.c11
     clear h hf hl ET hi ht hx hrt hbd hp hd hc
     go_enter Tryz.func102,Tryz.ntmps102
     go_wp2_with fail
     refine HC.out.mono ?_
     rintro e w1 ⟨rfl,rfl⟩
     go_wp2_with fail
     go_quiet (fail)
     have HQ:=hid (fun m=>((H.out.dF (w':=w.drewN m) ⟨m,rfl⟩).kN (f:=fun k=>{k with color:=D.parity}) HI.out HT.out HX.out (k:=1) (u:=.int .i64 D.parity) rfl))
     have HTQ:=hid (fun m=>(Touch.of_below (X:=fun b=>lo≤b) (dK.new (w:=w) (w':=w.drewN m) ⟨m,rfl⟩)).trans (nT (H.out.dF (w':=w.drewN m) ⟨m,rfl⟩) HT.out HX.out 1 (.int .i64 D.parity)))
     go_wp2_with fail
     generalize hw1:World.setCell _ _ _=w1 at*
     have H1:Hid (az w1 lo lab a (D.cO r)):=hid (hw1▸HQ.out _)
     have T1:Hid (Touch (fun b=>lo≤b) w w1):=hid (hw1▸HTQ.out _)
     clear hw1 HQ HTQ c2 c3 m1 m5 fz1 c11
     have c11:w1.cell? ⟨a.q,11,none⟩=some (.slice a.ra D.ring.length a.rc):=H1.out.c11
     have HH:=hid (Un a.ra a.rc D.ring (t.h:Int) w1 H1.out.rg (by have:=HL.out;omega))
     refine HH.out.mono ?_
     rintro e w2 ⟨rfl,rfl⟩
     cases hh:hasB (ints D.ring) (t.h:Int) with
     |true=>
      have HE:Hid (D.touch r=D.cO r):=hid (by
       unfold Wd.touch
       rw[E.out,if_pos rfl,HRT.out,hh,if_pos rfl]
       rfl)
      clear hh HH
      go_wp2_with fail
      go_ret
      exact⟨by rw[E.out];rfl,by rw[HE.out];exact⟨lab,a,rfl,rfl,rfl,H1.out⟩,T1.out⟩
     |false=>
      have HE:Hid (D.touch r={D.cO r with ring:=D.ring++[t.h]}):=hid (by
       unfold Wd.touch
       rw[E.out,if_pos rfl,HRT.out,hh,if_neg (by decide)]
       simp)
      have HB:=hid (oD a.ra a.rc D.ring t.h w1 H1.out.rg (by have:=HL.out;omega))
      clear hh HH
      go_wp2_with fail
      refine HB.out.mono ?_
      rintro e w2 ⟨ra,rc,rfl,hr,hf,hb⟩
      have h0:=az.mQ H1.out hb rc hr hf
      rw[show(D.ring++[t.h]).length=D.ring.length+1 by simp] at h0
      have HW:=hid h0
      clear h0
      have HTW:=hid ((T1.out.trans (Touch.of_below hb)).setCell (p:=⟨a.q,11,none⟩) (fun _=>H1.out.lq.1) (.slice ra (D.ring.length+1) rc))
      have c11:w2.cell? ⟨a.q,11,none⟩=some (.slice a.ra D.ring.length a.rc):=(H1.out.later hb).c11
      have fz:=((H1.out.later hb).wb).free 11
      clear hr hf hb
      go_wp2_with fail
      go_ret
      exact⟨by rw[E.out];rfl,by rw[HE.out];obtain⟨lab2,k⟩:=HW.out;exact⟨lab2,{a with ra:=ra,rc:=rc},rfl,rfl,rfl,k⟩,HTW.out⟩
theorem MW(h:az w lo lab a D){r:Int}(hn:D.dz r=false):
  Calls Tryz.prog 43 #[.pointer (some ⟨a.q,0,none⟩),.int .i64 r] w (wY w lo a D (.bool false)):=by
 have HA:=gW h r
 rw[hn] at HA
 have HA:=hid HA
 have H:=hid h
 clear h hn
 go_enter Tryz.func43,Tryz.ntmps43
 go_wp2_with fail
 refine HA.out.mono ?_
 rintro e w1 ⟨rfl,hd⟩
 have H1:=hid (H.out.dF hd)
 have T1:=hid (Touch.of_below (X:=fun b=>lo≤b) hd.new)
 clear hd
 go_wp2_with fail
 go_ret
 exact⟨rfl,⟨lab,a,rfl,rfl,rfl,H1.out⟩,T1.out⟩
theorem UF(h:az w lo lab a D){r:Int}(hf:D.find r=some t)(hd:t.mr.dead=false)(h0:0≤t.mr.refs)(h1:t.mr.refs<4294967295)(hl:D.ring.length≤8000):
  Calls Tryz.prog 43 #[.pointer (some ⟨a.q,0,none⟩),.int .i64 r] w (wY w lo a (D.more r) (.bool true)):=by
 have HA:=gW h r
 rw[bv hf,hd] at HA
 have HA:=hid HA
 have H:=hid h
 have HUp:=hid (fun w' (h':az w' lo lab a D)=>We h' hf h0 h1)
 have HTo:=hid (fun w' (h':az w' lo lab a (D.up r))=>Qr h' r hl)
 clear h hd hf h0 h1 hl
 go_enter Tryz.func43,Tryz.ntmps43
 go_wp2_with fail
 refine HA.out.mono ?_
 rintro e w1 ⟨rfl,hd⟩
 have H1:=hid (H.out.dF hd)
 have T1:=hid (Touch.of_below (X:=fun b=>lo≤b) hd.new)
 clear hd
 go_wp2_with fail
 refine(HUp.out _ H1.out).mono ?_
 rintro e w2 ⟨rfl,k1,k2⟩
 have H2:=hid k1
 have T2:=hid (T1.out.trans k2)
 clear k1 k2
 go_wp2_with fail
 refine(HTo.out _ H2.out).mono ?_
 rintro e w3 ⟨rfl,k1,k2⟩
 have H3:=hid k1
 have T3:=hid (T2.out.trans k2)
 clear k1 k2
 go_wp2_with fail
 go_ret
 exact⟨rfl,H3.out,T3.out⟩
structure WB (D:Wd):Prop where
 rl:D.ring.length≤8000
 gl:D.grave.length≤8000
 cl:D.clean.length≤7000
 p0:0≤D.pending
 p1:D.pending≤4294900000
 ll:∀r t,D.find r=some t→t.lv.length≤1000
 rf:∀r t,D.find r=some t→0≤t.mr.refs∧t.mr.refs≤4294967295
 sh:∀r t,D.find r=some t→0≤t.mr.shadow∧t.mr.shadow≤4294967295
theorem WB.bU(B:WB D)(h:az w lo lab a D)(r:Int)(h0:D.cnt r=0):Calls Tryz.prog 60 #[.pointer (some ⟨a.q,0,none⟩),.int .i64 r] w (dW w lo a.q (D.bU r) (.bool (D.gU r))):=
 Qh h r h0 B.rl B.gl B.p0 B.p1 (B.ll r)
theorem WB.mark(B:WB D)(r:Int)(f:cz→cz)(h1:∀t,D.find r=some t→0≤(f t.mr).refs∧(f t.mr).refs≤4294967295)(h2:∀t,D.find r=some t→0≤(f t.mr).shadow∧(f t.mr).shadow≤4294967295):WB (D.mark r f):=by
 have key:∀q s,(D.mark r f).find q=some s→∃t,D.find q=some t∧(s=t∨(D.find r=some t∧s={t with mr:=f t.mr})):=fun q s hs=>by
  rw[bG] at hs
  cases hq:D.find q with
  |none=>rw[hq] at hs;cases hs
  |some t=>
   rw[hq] at hs
   simp only[Option.map_some,Option.some.injEq] at hs
   refine⟨t,rfl,?_⟩
   by_cases e:t.at r=true
   ·rw[if_pos e] at hs
    have hr:q=r:=by
     have:=(ax hq).2
     unfold Th.at at e
     simp at e
     omega
    exact .inr ⟨by rw[←hr];exact hq,hs.symm⟩
   ·rw[if_neg e] at hs
    exact .inl hs.symm
 refine⟨B.rl,B.gl,B.cl,B.p0,B.p1,fun q s hs=> ?_,fun q s hs=> ?_,fun q s hs=> ?_⟩
 ·obtain⟨t,ht,rfl|⟨_,rfl⟩⟩:=key q s hs
  ·exact B.ll q _ ht
  ·exact B.ll q t ht
 ·obtain⟨t,ht,rfl|⟨k,rfl⟩⟩:=key q s hs
  ·exact B.rf q _ ht
  ·exact h1 t k
 ·obtain⟨t,ht,rfl|⟨k,rfl⟩⟩:=key q s hs
  ·exact B.sh q _ ht
  ·exact h2 t k
theorem WB.keep(B:WB D)(r:Int)(f:cz→cz)(h1:∀m,(f m).refs=m.refs)(h2:∀m,(f m).shadow=m.shadow):WB (D.mark r f):=
 B.mark r f (fun t ht=>by rw[h1];exact B.rf r t ht) (fun t ht=>by rw[h2];exact B.sh r t ht)
theorem WB.ay(B:WB D)(r:Int)(i:Nat)(x:Int):WB (D.ay r i x):=by
 have key:∀q s,(D.ay r i x).find q=some s→∃t,D.find q=some t∧s.lv=t.lv∧s.mr=t.mr:=fun q s hs=>by
  rw[ve] at hs
  cases hq:D.find q with
  |none=>rw[hq] at hs;cases hs
  |some t=>
   rw[hq] at hs
   simp only[Option.map_some,Option.some.injEq] at hs
   refine⟨t,rfl,?_⟩
   subst hs
   split<;>exact⟨rfl,rfl⟩
 refine⟨B.rl,B.gl,B.cl,B.p0,B.p1,fun q s hs=> ?_,fun q s hs=> ?_,fun q s hs=> ?_⟩
 ·obtain⟨t,ht,e,_⟩:=key q s hs;rw[e];exact B.ll q t ht
 ·obtain⟨t,ht,_,e⟩:=key q s hs;rw[e];exact B.rf q t ht
 ·obtain⟨t,ht,_,e⟩:=key q s hs;rw[e];exact B.sh q t ht
theorem WB.down(B:WB D){r:Int}(hf:D.find r=some t)(h0:0<t.mr.refs):WB (D.down r):=
 B.mark r _ (fun u hu=>by rw[hf] at hu;cases hu;have:=B.rf r t hf;show 0≤t.mr.refs-1∧t.mr.refs-1≤_;omega) (fun u hu=>B.sh r u hu)
theorem WB.up(B:WB D){r:Int}(hb:∀t,D.find r=some t→t.mr.refs<4294967295):WB (D.up r):=
 B.mark r _ (fun u hu=>by have h1:=B.rf r u hu;have h2:=hb u hu;show 0≤u.mr.refs+1∧u.mr.refs+1≤_;omega) (fun u hu=>B.sh r u hu)
theorem WB.rR(B:WB D):WB D.rR:=⟨B.rl,B.gl,B.cl,B.p0,B.p1,B.ll,B.rf,B.sh⟩
theorem WB.touch(B:WB D)(r:Int)(hr:D.ring.length≤7000):WB (D.touch r):=by
 unfold Wd.touch
 split
 ·have k:=B.keep r (fun m=>{m with color:=D.parity}) (fun _=>rfl) (fun _=>rfl)
  refine⟨?_,k.gl,k.cl,k.p0,k.p1,k.ll,k.rf,k.sh⟩
  show(if hasB (ints D.ring) (r-1) then D.ring else D.ring++[(r-1).toNat]).length≤8000
  split
  ·omega
  ·simp;omega
 ·exact B
theorem UG(h:az w lo lab a D)(B:WB D){r:Int}(hf:D.find r=some t)(h0:0<t.mr.refs):
  Calls Tryz.prog 103 #[.pointer (some ⟨a.q,0,none⟩),.int .i64 r] w (dW w lo a.q (D.less r) (.tuple #[])):=by
 have hb:=B.rf r t hf
 have c8:=h.c8
 have f8:=h.wb.free 8
 have k1:=h.fI (k:=8) (u:=.int .i64 1) (D':=D.rR) rfl rfl rfl rfl rfl rfl rfl
 have HT1:Hid (Touch (fun b=>lo≤b) w (w.setCell ⟨a.q,8,none⟩ (.int .i64 1))):=hid ((Touch.refl (fun b=>lo≤b) w).setCell (p:=⟨a.q,8,none⟩) (fun _=>h.lq.1) _)
 have hfs:D.rR.find r=some t:=hf
 have HD:=hid (sD k1 hfs h0 hb.2)
 have B2:WB (D.down r).rR:=(B.down hf h0).rR
 have hc:(D.down r).rR.cnt r=t.mr.refs-1:=by
  have:(D.down r).rR.find r=some {t with mr:={t.mr with refs:=t.mr.refs-1}}:=by
   show(D.down r).find r=_
   unfold Wd.down
   rw[bG,hf]
   simp[eQ hf]
  unfold Wd.cnt
  rw[this]
 by_cases h1:t.mr.refs-1=0
 ·have E:Hid (D.less r=(D.down r).rR.bU r):=hid (by unfold Wd.less Wd.inter;rw[if_pos (by rw[hc];exact h1)])
  have HBu:=hid (fun w' lab' a' (h':az w' lo lab' a' (D.down r).rR)=>B2.bU h' r (by rw[hc];exact h1))
  rw[h1] at HD
  clear h hf h0 hb B B2 hc h1 hfs k1
  go_enter Tryz.func103,Tryz.ntmps103
  go_wp2_with fail
  refine HD.out.mono ?_
  rintro e w2 ⟨rfl,k1,k2⟩
  have H2:=hid k1
  have T2:=hid (HT1.out.trans k2)
  clear k1 k2
  go_wp2_with fail
  refine(HBu.out _ _ _ H2.out).mono ?_
  rintro e w3 ⟨rfl,k1,k2⟩
  have H3:=hid k1
  have T3:=hid (T2.out.trans k2)
  clear k1 k2
  go_wp2_with fail
  go_end0
  exact⟨rfl,by rw[E.out];exact H3.out,T3.out⟩
 ·have E:Hid (D.less r=(D.down r).rR):=hid (by unfold Wd.less Wd.inter;rw[if_neg (by rw[hc];exact h1)])
  have hb1:(t.mr.refs-1==0)=false:=bL h1
  clear h hf h0 hb B B2 hc h1 hfs k1
  go_enter Tryz.func103,Tryz.ntmps103
  go_wp2_with fail
  refine HD.out.mono ?_
  rintro e w2 ⟨rfl,k1,k2⟩
  have H2:=hid k1
  have T2:=hid (HT1.out.trans k2)
  clear k1 k2
  go_wp2_with fail
  go_end0
  exact⟨rfl,by rw[E.out];exact H2.out.nE rfl,T2.out⟩
def Wd.qa(D:Wd)(r:Int):Bool:=D.dz r&& !decide (D.cnt r=0)
def Wd.ny(D:Wd)(r:Int):Wd:=if D.qa r then D.less r else D
theorem VX(h:az w lo lab a D)(B:WB D)(r:Int):
  Calls Tryz.prog 42 #[.pointer (some ⟨a.q,0,none⟩),.int .i64 r] w (dW w lo a.q (D.ny r) (.bool (D.qa r))):=by
 have HA:=gW h r
 cases ha:D.dz r with
 |false=>
  rw[ha] at HA
  have HA:=hid HA
  have E:Hid (D.qa r=false):=hid (by unfold Wd.qa;rw[ha];rfl)
  have H:=hid h
  clear h B ha
  go_enter Tryz.func42,Tryz.ntmps42
  go_wp2_with fail
  refine HA.out.mono ?_
  rintro e w1 ⟨rfl,hd⟩
  have H1:=hid (H.out.dF hd)
  have T1:=hid (Touch.of_below (X:=fun b=>lo≤b) hd.new)
  clear hd
  go_wp2_with fail
  go_ret
  exact⟨by rw[E.out];rfl,by unfold Wd.ny;rw[E.out];exact⟨lab,a,rfl,H1.out⟩,T1.out⟩
 |true=>
  rw[ha] at HA
  have HA:=hid HA
  obtain⟨t,hf,hd⟩:=lG ha
  have hcr:D.cnt r=t.mr.refs:=by unfold Wd.cnt;rw[hf]
  have HCn:=hid (fun w' (h':az w' lo lab a D)=>gX h' r)
  rw[hcr] at HCn
  by_cases h0:t.mr.refs=0
  ·have E:Hid (D.qa r=false):=hid (by unfold Wd.qa;rw[hcr];simp[h0])
   rw[h0] at HCn
   have H:=hid h
   clear h B ha hf hd hcr h0
   go_enter Tryz.func42,Tryz.ntmps42
   go_wp2_with fail
   refine HA.out.mono ?_
   rintro e w1 ⟨rfl,hd⟩
   have H1:=hid (H.out.dF hd)
   have T1:=hid (Touch.of_below (X:=fun b=>lo≤b) hd.new)
   clear hd
   go_wp2_with fail
   refine(HCn.out _ H1.out).mono ?_
   rintro e w2 ⟨rfl,rfl⟩
   go_wp2_with fail
   go_ret
   exact⟨by rw[E.out];rfl,by unfold Wd.ny;rw[E.out];exact⟨lab,a,rfl,H1.out⟩,T1.out⟩
  ·have E:Hid (D.qa r=true):=hid (by unfold Wd.qa;rw[hcr,ha];simp[h0])
   have hpos:0<t.mr.refs:=by have:=B.rf r t hf;omega
   have HLs:=hid (fun w' (h':az w' lo lab a D)=>UG h' B hf hpos)
   have hnb:(t.mr.refs==0)=false:=bL h0
   have H:=hid h
   clear h B ha hf hd hcr h0 hpos
   go_enter Tryz.func42,Tryz.ntmps42
   go_wp2_with fail
   refine HA.out.mono ?_
   rintro e w1 ⟨rfl,hd⟩
   have H1:=hid (H.out.dF hd)
   have T1:=hid (Touch.of_below (X:=fun b=>lo≤b) hd.new)
   clear hd
   go_wp2_with fail
   refine(HCn.out _ H1.out).mono ?_
   rintro e w2 ⟨rfl,rfl⟩
   go_wp2_with fail
   refine(HLs.out _ H1.out).mono ?_
   rintro e w3 ⟨rfl,k1,k2⟩
   have H3:=hid k1
   have T3:=hid (T1.out.trans k2)
   clear k1 k2
   go_wp2_with fail
   go_ret
   exact⟨by rw[E.out];rfl,by unfold Wd.ny;rw[E.out];exact H3.out,T3.out⟩
end
section
variable {w w':World} {lo:Nat} {lab:Nat→Nat} {a:WA} {D D':Wd} {i:Nat} {t t' u:Th} {x:TA} {n v b:Nat} {cl:List Nat} {ts:List Th}
theorem nL{r s:Int}{f g:Th→Th}(hf:∀t,(f t).ended=t.ended∧(f t).h=t.h)(hg:∀t,(g t).ended=t.ended∧(g t).h=t.h)(hfg:r=s→∀t,f (g t)=g (f t)):∀l:List Th,bJ r f (bJ s g l)=bJ s g (bJ r f l)
 |[]=>rfl
 |t::l=>by
  have af:∀u q,(f u).at q=u.at q:=fun u q=>by unfold Th.at;rw[(hf u).1,(hf u).2]
  have ag:∀u q,(g u).at q=u.at q:=fun u q=>by unfold Th.at;rw[(hg u).1,(hg u).2]
  cases h1:t.at s with
  |true=>
   cases h2:t.at r with
   |true=>
    have e:r=s:=by
     unfold Th.at at h1 h2
     simp at h1 h2
     omega
    simp[bJ,h1,h2,af,ag,hfg e]
   |false=>simp[bJ,h1,h2,af,ag]
  |false=>
   cases h2:t.at r with
   |true=>simp[bJ,h1,h2,af,ag]
   |false=>simp[bJ,h1,h2,af,ag,nL hf hg hfg l]
def bK(z:Int)(m:cz):cz:={m with left:=z}
theorem qK(g z q:Int):(D.mark g (bK z)).find q=(D.find q).map (fun t=>if t.at g then {t with mr:=bK z t.mr} else t):=bG (D:=D) (r:=g) (f:=bK z) q
theorem EQ(g z q:Int):(D.mark g (bK z)).cnt q=D.cnt q:=by
 unfold Wd.cnt
 rw[qK]
 cases D.find q with
 |none=>rfl
 |some t=>simp only[Option.map_some];split<;>rfl
theorem Co(g z q i:Int):(D.mark g (bK z)).counted q i=D.counted q i:=by
 unfold Wd.counted
 rw[qK]
 cases D.find q with
 |none=>rfl
 |some t=>simp only[Option.map_some];split<;>rfl
theorem Cr(g z q:Int):(D.mark g (bK z)).lighter q=D.lighter q:=by
 unfold Wd.lighter Wd.fB Wd.fE
 rw[qK]
 cases D.find q with
 |none=>rfl
 |some t=>simp only[Option.map_some];split<;>rfl
theorem Av(g z q:Int)(f:cz→cz)(h:∀m,f (bK z m)=bK z (f m)):(D.mark g (bK z)).mark q f=(D.mark q f).mark g (bK z):=by
 have:=nL (r:=q) (s:=g) (f:=fun t=>{t with mr:=f t.mr}) (g:=fun t=>{t with mr:=bK z t.mr}) (fun _=>⟨rfl,rfl⟩) (fun _=>⟨rfl,rfl⟩) (fun _ t=>by simp[h]) D.ts
 show({D with ts:=bJ q (fun t=>{t with mr:=f t.mr}) (bJ g (fun t=>{t with mr:=bK z t.mr}) D.ts)}:Wd)={D with ts:=bJ g (fun t=>{t with mr:=bK z t.mr}) (bJ q (fun t=>{t with mr:=f t.mr}) D.ts)}
 rw[this]
theorem LJ(g z q:Int)(k:Nat)(y:Int):(D.mark g (bK z)).ay q k y=(D.ay q k y).mark g (bK z):=by
 have:=nL (r:=q) (s:=g) (f:=fun t=>{t with pt:=t.pt.set k y}) (g:=fun t=>{t with mr:=bK z t.mr}) (fun _=>⟨rfl,rfl⟩) (fun _=>⟨rfl,rfl⟩) (fun _ t=>rfl) D.ts
 show({D with ts:=bJ q (fun t=>{t with pt:=t.pt.set k y}) (bJ g (fun t=>{t with mr:=bK z t.mr}) D.ts)}:Wd)={D with ts:=bJ g (fun t=>{t with mr:=bK z t.mr}) (bJ q (fun t=>{t with pt:=t.pt.set k y}) D.ts)}
 rw[this]
theorem Cq(g z q:Int):(D.mark g (bK z)).aI q=(D.aI q).mark g (bK z):=by
 unfold Wd.aI
 rw[Cr]
 split
 ·exact Av g z q _ (fun _=>rfl)
 ·rfl
theorem LH{g:Int}(z x:Int)(hd:∀t,D.find g=some t→t.mr.dead=true):(D.mark g (bK z)).bU x=(D.bU x).mark g (bK z):=by
 unfold Wd.bU
 rw[qK]
 cases hf:D.find x with
 |none=>rfl
 |some u=>
  simp only[Option.map_some]
  by_cases e:u.at g=true
  ·have hx:x=g:=by
    have:=(ax hf).2
    unfold Th.at at e
    simp at e
    omega
   have hu:=hd u (hx▸hf)
   rw[if_pos e]
   rw[if_pos (show({u with mr:=bK z u.mr}:Th).mr.dead=true from hu),if_pos hu]
  ·rw[if_neg e]
   by_cases hu:u.mr.dead=true
   ·rw[if_pos hu,if_pos hu]
   ·rw[if_neg hu,if_neg hu]
    have hx:x≠g:=fun h=>e (by rw[←h];exact eQ hf)
    have h1:=uM (D:=D.mark g (bK z)) x u
    have h2:=uM (D:=D) x u
    have h3:=nL (r:=x) (s:=g) (f:=fun s=>{s with mr:={s.mr with dead:=true,left:=(u.pt.length:Int),leaves:=(u.lv.length:Int)}}) (g:=fun t=>{t with mr:=bK z t.mr}) (fun _=>⟨rfl,rfl⟩) (fun _=>⟨rfl,rfl⟩) (fun h=>absurd h hx) D.ts
    have e1:(D.mark g (bK z)).lay x u={D.lay x u with ts:=((D.mark g (bK z)).lay x u).ts}:=rfl
    have e2:(D.lay x u).mark g (bK z)={D.lay x u with ts:=bJ g (fun t=>{t with mr:=bK z t.mr}) (D.lay x u).ts}:=rfl
    rw[e1,e2,h1,h2]
    exact congrArg (fun T=>({D.lay x u with ts:=T}:Wd)) h3
theorem xM{g:Int}(hf:D.find g=some t)(hd:t.mr.dead=true)(z:Int)(k:Nat)(x:Int):(D.mark g (bK z)).drain g k x=(D.drain g k x).mark g (bK z):=by
 have hd1:∀t,(D.ay g k 0).find g=some t→t.mr.dead=true:=fun s hs=>by
  rw[ve,hf] at hs
  simp[eQ hf] at hs
  rw[←hs]
  exact hd
 have hm:∀(D1:Wd) (q:Int) (f:cz→cz),(∀m,(f m).dead=m.dead)→(∀t,D1.find g=some t→t.mr.dead=true)→∀t,(D1.mark q f).find g=some t→t.mr.dead=true:=fun D1 q f h1 h2 s hs=>by
  rw[bG] at hs
  cases hq:D1.find g with
  |none=>rw[hq] at hs;cases hs
  |some u=>
   rw[hq] at hs
   simp only[Option.map_some,Option.some.injEq] at hs
   subst hs
   split
   ·show(f u.mr).dead=true;rw[h1];exact h2 u hq
   ·exact h2 u hq
 unfold Wd.drain
 rw[LJ,EQ,Co]
 generalize D.ay g k 0=D1 at*
 by_cases hc:D1.cnt x=0
 ·rw[if_pos hc,if_pos hc]
 ·rw[if_neg hc,if_neg hc]
  have key:∀D2:Wd,(∀t,D2.find g=some t→t.mr.dead=true)→(if((D2.mark g (bK z)).down x).cnt x=0 then((D2.mark g (bK z)).down x).bU x else(D2.mark g (bK z)).down x)=(if(D2.down x).cnt x=0 then(D2.down x).bU x else D2.down x).mark g (bK z):=fun D2 h2=>by
   have e:(D2.mark g (bK z)).down x=(D2.down x).mark g (bK z):=Av g z x _ (fun _=>rfl)
   rw[e,EQ]
   have h3:=hm D2 x (fun m=>{m with refs:=m.refs-1}) (fun _=>rfl) h2
   split
   ·exact LH z x h3
   ·rfl
  simp only
  by_cases hk:D1.counted g k=true
  ·rw[if_pos hk,if_pos hk,Cq]
   refine key _ (fun s hs=> ?_)
   unfold Wd.aI at hs
   split at hs
   ·exact hm D1 x (fun m=>{m with shadow:=m.shadow-1}) (fun _=>rfl) hd1 s hs
   ·exact hd1 s hs
  ·rw[if_neg hk,if_neg hk]
   exact key _ hd1
theorem WB.fE(B:WB D)(r:Int):0≤D.fE r∧D.fE r≤4294967295:=by
 unfold Wd.fE
 cases hf:D.find r with
 |none=>simp
 |some t=>
  have:=B.sh r t hf
  simp only
  split<;>omega
theorem WB.aI(B:WB D)(x:Int):WB (D.aI x):=by
 unfold Wd.aI
 split
 ·rename_i hl
  refine B.mark x _ (fun t ht=>B.rf x t ht) (fun t ht=> ?_)
  have h1:=B.sh x t ht
  unfold Wd.lighter at hl
  simp at hl
  have h2:=hl.2
  unfold Wd.fE at h2
  rw[ht] at h2
  show 0≤t.mr.shadow-1∧t.mr.shadow-1≤_
  by_cases hs:t.mr.shade=D.parity
  ·simp[hs] at h2;omega
  ·simp[hs] at h2
 ·exact B
theorem qE(x:Int)(hf:D.find x=some u):(D.down x).cnt x=u.mr.refs-1:=by
 have:(D.down x).find x=some {u with mr:={u.mr with refs:=u.mr.refs-1}}:=by
  unfold Wd.down
  rw[bG,hf]
  simp[eQ hf]
 unfold Wd.cnt
 rw[this]
theorem Qi(h:az w lo lab a D){r:Int}(hf:D.find r=some t){k:Nat}(hk:k<t.pt.length)(hc:(D.ay r k 0).cnt (nth t.pt k)=0):
  Calls Tryz.prog 104 #[.pointer (some ⟨a.q,0,none⟩),.int .i64 r,.int .i64 (k:Int)] w (dW w lo a.q (D.drain r k (nth t.pt k)) (.tuple #[])):=by
 have E:Hid (D.drain r k (nth t.pt k)=D.ay r k 0):=hid (by unfold Wd.drain;rw[if_pos hc])
 obtain⟨i,x,hi,ht,hx⟩:=h.found hf
 have HC:=hid (aY h hi hx)
 have c0:=h.c0
 have d2:=(h.h.th i t x ht hx).c2
 obtain⟨g,hpa,hg,gc,gf,glo,gs⟩:=h.jG ht hx hk
 rw[hpa] at d2
 have HK:Hid (az (w.setCell ⟨g,k,none⟩ (.int .i64 0)) lo lab a (D.ay r k 0)):=hid (by rw[show D.ay r k 0={D with ts:=D.ts.set i {t with pt:=t.pt.set k 0}} from mg hi ht];exact gs 0)
 have HKT:Hid (Touch (fun b=>lo≤b) w (w.setCell ⟨g,k,none⟩ (.int .i64 0))):=hid ((Touch.refl (fun b=>lo≤b) w).setCell (p:=⟨g,k,none⟩) (fun _=>glo) _)
 clear h hf hi ht hx gs hpa
 have HCn:=hid (fun w' (h':az w' lo lab a (D.ay r k 0))=>gX h' (nth t.pt k))
 rw[hc] at HCn
 generalize nth t.pt k=y at*
 clear hc
 go_enter Tryz.func104,Tryz.ntmps104
 go_wp2_with fail
 refine HC.out.mono ?_
 rintro e w1 ⟨rfl,rfl⟩
 go_wp2_with fail
 generalize hw1:World.setCell _ _ _=w1 at*
 have H1:=hid HK.out
 have T1:=hid HKT.out
 clear hw1 HK HKT c0 d2 gc gf
 refine(HCn.out _ H1.out).mono ?_
 rintro e w2 ⟨rfl,rfl⟩
 go_wp2_with fail
 go_end0
 exact⟨rfl,by rw[E.out];exact⟨lab,a,rfl,H1.out⟩,T1.out⟩
set_option maxHeartbeats 1000000 in
theorem MR(h:az w lo lab a D)(B:WB D){r:Int}(hf:D.find r=some t){k:Nat}(hk:k<t.pt.length)(hu:(D.ay r k 0).find (nth t.pt k)=some u)(h0:0<u.mr.refs)(hcd:(D.ay r k 0).counted r k=true)(hz:u.mr.refs-1=0):
  Calls Tryz.prog 104 #[.pointer (some ⟨a.q,0,none⟩),.int .i64 r,.int .i64 (k:Int)] w (dW w lo a.q (D.drain r k (nth t.pt k)) (.tuple #[])):=by
 have hcn:(D.ay r k 0).cnt (nth t.pt k)=u.mr.refs:=by unfold Wd.cnt;rw[hu]
 have B1:=B.ay r k 0
 have B2:=B1.aI (nth t.pt k)
 obtain⟨u2,hu2,hur⟩:∃u2,((D.ay r k 0).aI (nth t.pt k)).find (nth t.pt k)=some u2∧u2.mr.refs=u.mr.refs:=by
  obtain⟨f,h1,h2,_⟩:=kU (D:=D.ay r k 0) (r:=nth t.pt k) (nth t.pt k) u hu
  exact⟨_,h1,h2⟩
 have hd2:=qE (nth t.pt k) hu2
 rw[hur] at hd2
 have E:Hid (D.drain r k (nth t.pt k)=(((D.ay r k 0).aI (nth t.pt k)).down (nth t.pt k)).bU (nth t.pt k)):=hid (by
  unfold Wd.drain
  rw[if_neg (by rw[hcn];omega)]
  simp only
  rw[if_pos hcd]
  rw[if_pos (by rw[hd2];exact hz)])
 have hb2:=B2.rf _ _ hu2
 obtain⟨i,x,hi,ht,hx⟩:=h.found hf
 have HC:=hid (aY h hi hx)
 have c0:=h.c0
 have d2:=(h.h.th i t x ht hx).c2
 obtain⟨g,hpa,hg,gc,gf,glo,gs⟩:=h.jG ht hx hk
 rw[hpa] at d2
 have HK:Hid (az (w.setCell ⟨g,k,none⟩ (.int .i64 0)) lo lab a (D.ay r k 0)):=hid (by rw[show D.ay r k 0={D with ts:=D.ts.set i {t with pt:=t.pt.set k 0}} from mg hi ht];exact gs 0)
 have HKT:Hid (Touch (fun b=>lo≤b) w (w.setCell ⟨g,k,none⟩ (.int .i64 0))):=hid ((Touch.refl (fun b=>lo≤b) w).setCell (p:=⟨g,k,none⟩) (fun _=>glo) _)
 clear h hf hi ht hx gs hpa
 have HCn:=hid (fun w' (h':az w' lo lab a (D.ay r k 0))=>gX h' (nth t.pt k))
 rw[hcn] at HCn
 have HCd:=hid (fun w' (h':az w' lo lab a (D.ay r k 0))=>nM h' r k)
 rw[hcd] at HCd
 have HLi:=hid (fun w' (h':az w' lo lab a (D.ay r k 0))=>Bi h' (nth t.pt k) (by have:=B1.fE (nth t.pt k);omega) (by have:=B1.fE (nth t.pt k);omega))
 generalize (D.ay r k 0).lighter (nth t.pt k)=lb at HLi
 have HDn0:=fun w' lab' a' (h':az w' lo lab' a' ((D.ay r k 0).aI (nth t.pt k)))=>sD h' hu2 (by omega) (by omega)
 rw[hur] at HDn0
 have HDn:=hid HDn0
 clear HDn0
 have HBu:=hid (fun w' lab' a' (h':az w' lo lab' a' (((D.ay r k 0).aI (nth t.pt k)).down (nth t.pt k)))=>(B2.down hu2 (by omega)).bU h' (nth t.pt k) (by rw[hd2];exact hz))
 have hne:(u.mr.refs==0)=false:=bL (by omega)
 have hzb:(u.mr.refs-1==0)=true:=wB hz
 generalize nth t.pt k=y at*
 clear hcn hcd hz B1 B2 hd2 hb2 B hu hu2 hur
 go_enter Tryz.func104,Tryz.ntmps104
 go_wp2_with fail
 refine HC.out.mono ?_
 rintro e w1 ⟨rfl,rfl⟩
 go_wp2_with fail
 generalize hw1:World.setCell _ _ _=w1 at*
 have H1:=hid HK.out
 have T1:=hid HKT.out
 clear hw1 HK HKT c0 d2 gc gf
 refine(HCn.out _ H1.out).mono ?_
 rintro e w2 ⟨rfl,rfl⟩
 go_wp2_with fail
 refine(HCd.out _ H1.out).mono ?_
 rintro e w3 ⟨rfl,hd⟩
 have H3:=hid (H1.out.dF hd)
 have T3:=hid (T1.out.trans (Touch.of_below (X:=fun b=>lo≤b) hd.new))
 clear hd
 go_wp2_with fail
 refine(HLi.out _ H3.out).mono ?_
 rintro e w4 ⟨rfl,⟨lab4,a4,ea4,k1⟩,k2⟩
 have H4:=hid k1
 have T4:=hid (T3.out.trans k2)
 have EA:=hid ea4
 rw[←EA.out]
 clear k1 k2 ea4
 go_wp2_with fail
 refine(HDn.out _ _ _ H4.out).mono ?_
 rintro e w5 ⟨rfl,k1,k2⟩
 have H5:=hid k1
 have T5:=hid (T4.out.trans k2)
 clear k1 k2
 go_wp2_with fail
 refine(HBu.out _ _ _ H5.out).mono ?_
 rintro e w6 ⟨rfl,k1,k2⟩
 have H6:=hid k1
 have T6:=hid (T5.out.trans k2)
 clear k1 k2
 go_wp2_with fail
 go_end0
 exact⟨rfl,by rw[E.out];(rw[←EA.out];exact H6.out),T6.out⟩
set_option maxHeartbeats 1000000 in
theorem MQ(h:az w lo lab a D)(B:WB D){r:Int}(hf:D.find r=some t){k:Nat}(hk:k<t.pt.length)(hu:(D.ay r k 0).find (nth t.pt k)=some u)(h0:0<u.mr.refs)(hcd:(D.ay r k 0).counted r k=true)(hz:¬u.mr.refs-1=0):
  Calls Tryz.prog 104 #[.pointer (some ⟨a.q,0,none⟩),.int .i64 r,.int .i64 (k:Int)] w (dW w lo a.q (D.drain r k (nth t.pt k)) (.tuple #[])):=by
 have hcn:(D.ay r k 0).cnt (nth t.pt k)=u.mr.refs:=by unfold Wd.cnt;rw[hu]
 have B1:=B.ay r k 0
 have B2:=B1.aI (nth t.pt k)
 obtain⟨u2,hu2,hur⟩:∃u2,((D.ay r k 0).aI (nth t.pt k)).find (nth t.pt k)=some u2∧u2.mr.refs=u.mr.refs:=by
  obtain⟨f,h1,h2,_⟩:=kU (D:=D.ay r k 0) (r:=nth t.pt k) (nth t.pt k) u hu
  exact⟨_,h1,h2⟩
 have hd2:=qE (nth t.pt k) hu2
 rw[hur] at hd2
 have E:Hid (D.drain r k (nth t.pt k)=((D.ay r k 0).aI (nth t.pt k)).down (nth t.pt k)):=hid (by
  unfold Wd.drain
  rw[if_neg (by rw[hcn];omega)]
  simp only
  rw[if_pos hcd]
  rw[if_neg (by rw[hd2];exact hz)])
 have hb2:=B2.rf _ _ hu2
 obtain⟨i,x,hi,ht,hx⟩:=h.found hf
 have HC:=hid (aY h hi hx)
 have c0:=h.c0
 have d2:=(h.h.th i t x ht hx).c2
 obtain⟨g,hpa,hg,gc,gf,glo,gs⟩:=h.jG ht hx hk
 rw[hpa] at d2
 have HK:Hid (az (w.setCell ⟨g,k,none⟩ (.int .i64 0)) lo lab a (D.ay r k 0)):=hid (by rw[show D.ay r k 0={D with ts:=D.ts.set i {t with pt:=t.pt.set k 0}} from mg hi ht];exact gs 0)
 have HKT:Hid (Touch (fun b=>lo≤b) w (w.setCell ⟨g,k,none⟩ (.int .i64 0))):=hid ((Touch.refl (fun b=>lo≤b) w).setCell (p:=⟨g,k,none⟩) (fun _=>glo) _)
 clear h hf hi ht hx gs hpa
 have HCn:=hid (fun w' (h':az w' lo lab a (D.ay r k 0))=>gX h' (nth t.pt k))
 rw[hcn] at HCn
 have HCd:=hid (fun w' (h':az w' lo lab a (D.ay r k 0))=>nM h' r k)
 rw[hcd] at HCd
 have HLi:=hid (fun w' (h':az w' lo lab a (D.ay r k 0))=>Bi h' (nth t.pt k) (by have:=B1.fE (nth t.pt k);omega) (by have:=B1.fE (nth t.pt k);omega))
 generalize (D.ay r k 0).lighter (nth t.pt k)=lb at HLi
 have HDn0:=fun w' lab' a' (h':az w' lo lab' a' ((D.ay r k 0).aI (nth t.pt k)))=>sD h' hu2 (by omega) (by omega)
 rw[hur] at HDn0
 have HDn:=hid HDn0
 clear HDn0
 have hne:(u.mr.refs==0)=false:=bL (by omega)
 have hzb:(u.mr.refs-1==0)=false:=bL hz
 generalize nth t.pt k=y at*
 clear hcn hcd hz B1 B2 hd2 hb2 B hu hu2 hur
 go_enter Tryz.func104,Tryz.ntmps104
 go_wp2_with fail
 refine HC.out.mono ?_
 rintro e w1 ⟨rfl,rfl⟩
 go_wp2_with fail
 generalize hw1:World.setCell _ _ _=w1 at*
 have H1:=hid HK.out
 have T1:=hid HKT.out
 clear hw1 HK HKT c0 d2 gc gf
 refine(HCn.out _ H1.out).mono ?_
 rintro e w2 ⟨rfl,rfl⟩
 go_wp2_with fail
 refine(HCd.out _ H1.out).mono ?_
 rintro e w3 ⟨rfl,hd⟩
 have H3:=hid (H1.out.dF hd)
 have T3:=hid (T1.out.trans (Touch.of_below (X:=fun b=>lo≤b) hd.new))
 clear hd
 go_wp2_with fail
 refine(HLi.out _ H3.out).mono ?_
 rintro e w4 ⟨rfl,⟨lab4,a4,ea4,k1⟩,k2⟩
 have H4:=hid k1
 have T4:=hid (T3.out.trans k2)
 have EA:=hid ea4
 rw[←EA.out]
 clear k1 k2 ea4
 go_wp2_with fail
 refine(HDn.out _ _ _ H4.out).mono ?_
 rintro e w5 ⟨rfl,k1,k2⟩
 have H5:=hid k1
 have T5:=hid (T4.out.trans k2)
 clear k1 k2
 go_wp2_with fail
 go_end0
 exact⟨rfl,by rw[E.out];exact H5.out.nE EA.out,T5.out⟩
set_option maxHeartbeats 1000000 in
theorem MV(h:az w lo lab a D)(B:WB D){r:Int}(hf:D.find r=some t){k:Nat}(hk:k<t.pt.length)(hu:(D.ay r k 0).find (nth t.pt k)=some u)(h0:0<u.mr.refs)(hcd:(D.ay r k 0).counted r k=false)(hz:u.mr.refs-1=0):
  Calls Tryz.prog 104 #[.pointer (some ⟨a.q,0,none⟩),.int .i64 r,.int .i64 (k:Int)] w (dW w lo a.q (D.drain r k (nth t.pt k)) (.tuple #[])):=by
 have hcn:(D.ay r k 0).cnt (nth t.pt k)=u.mr.refs:=by unfold Wd.cnt;rw[hu]
 have B1:=B.ay r k 0
 have B2:=B1
 obtain⟨u2,hu2,hur⟩:∃u2,(D.ay r k 0).find (nth t.pt k)=some u2∧u2.mr.refs=u.mr.refs:=⟨u,hu,rfl⟩
 have hd2:=qE (nth t.pt k) hu2
 rw[hur] at hd2
 have E:Hid (D.drain r k (nth t.pt k)=((D.ay r k 0).down (nth t.pt k)).bU (nth t.pt k)):=hid (by
  unfold Wd.drain
  rw[if_neg (by rw[hcn];omega)]
  simp only
  rw[if_neg (show ¬((D.ay r k 0).counted r k=true) by rw[hcd];decide)]
  rw[if_pos (by rw[hd2];exact hz)])
 have hb2:=B2.rf _ _ hu2
 obtain⟨i,x,hi,ht,hx⟩:=h.found hf
 have HC:=hid (aY h hi hx)
 have c0:=h.c0
 have d2:=(h.h.th i t x ht hx).c2
 obtain⟨g,hpa,hg,gc,gf,glo,gs⟩:=h.jG ht hx hk
 rw[hpa] at d2
 have HK:Hid (az (w.setCell ⟨g,k,none⟩ (.int .i64 0)) lo lab a (D.ay r k 0)):=hid (by rw[show D.ay r k 0={D with ts:=D.ts.set i {t with pt:=t.pt.set k 0}} from mg hi ht];exact gs 0)
 have HKT:Hid (Touch (fun b=>lo≤b) w (w.setCell ⟨g,k,none⟩ (.int .i64 0))):=hid ((Touch.refl (fun b=>lo≤b) w).setCell (p:=⟨g,k,none⟩) (fun _=>glo) _)
 clear h hf hi ht hx gs hpa
 have HCn:=hid (fun w' (h':az w' lo lab a (D.ay r k 0))=>gX h' (nth t.pt k))
 rw[hcn] at HCn
 have HCd:=hid (fun w' (h':az w' lo lab a (D.ay r k 0))=>nM h' r k)
 rw[hcd] at HCd
 have HDn0:=fun w' lab' a' (h':az w' lo lab' a' (D.ay r k 0))=>sD h' hu2 (by omega) (by omega)
 rw[hur] at HDn0
 have HDn:=hid HDn0
 clear HDn0
 have HBu:=hid (fun w' lab' a' (h':az w' lo lab' a' ((D.ay r k 0).down (nth t.pt k)))=>(B2.down hu2 (by omega)).bU h' (nth t.pt k) (by rw[hd2];exact hz))
 have hne:(u.mr.refs==0)=false:=bL (by omega)
 have hzb:(u.mr.refs-1==0)=true:=wB hz
 generalize nth t.pt k=y at*
 clear hcn hcd hz B1 B2 hd2 hb2 B hu hu2 hur
 go_enter Tryz.func104,Tryz.ntmps104
 go_wp2_with fail
 refine HC.out.mono ?_
 rintro e w1 ⟨rfl,rfl⟩
 go_wp2_with fail
 generalize hw1:World.setCell _ _ _=w1 at*
 have H1:=hid HK.out
 have T1:=hid HKT.out
 clear hw1 HK HKT c0 d2 gc gf
 refine(HCn.out _ H1.out).mono ?_
 rintro e w2 ⟨rfl,rfl⟩
 go_wp2_with fail
 refine(HCd.out _ H1.out).mono ?_
 rintro e w3 ⟨rfl,hd⟩
 have H3:=hid (H1.out.dF hd)
 have T3:=hid (T1.out.trans (Touch.of_below (X:=fun b=>lo≤b) hd.new))
 clear hd
 go_wp2_with fail
 have H4:=hid H3.out
 have T4:=hid T3.out
 have EA:Hid (a.q=a.q):=hid rfl
 refine(HDn.out _ _ _ H4.out).mono ?_
 rintro e w5 ⟨rfl,k1,k2⟩
 have H5:=hid k1
 have T5:=hid (T4.out.trans k2)
 clear k1 k2
 go_wp2_with fail
 refine(HBu.out _ _ _ H5.out).mono ?_
 rintro e w6 ⟨rfl,k1,k2⟩
 have H6:=hid k1
 have T6:=hid (T5.out.trans k2)
 clear k1 k2
 go_wp2_with fail
 go_end0
 exact⟨rfl,by rw[E.out];exact H6.out,T6.out⟩
set_option maxHeartbeats 1000000 in
theorem MU(h:az w lo lab a D)(B:WB D){r:Int}(hf:D.find r=some t){k:Nat}(hk:k<t.pt.length)(hu:(D.ay r k 0).find (nth t.pt k)=some u)(h0:0<u.mr.refs)(hcd:(D.ay r k 0).counted r k=false)(hz:¬u.mr.refs-1=0):
  Calls Tryz.prog 104 #[.pointer (some ⟨a.q,0,none⟩),.int .i64 r,.int .i64 (k:Int)] w (dW w lo a.q (D.drain r k (nth t.pt k)) (.tuple #[])):=by
 have hcn:(D.ay r k 0).cnt (nth t.pt k)=u.mr.refs:=by unfold Wd.cnt;rw[hu]
 have B1:=B.ay r k 0
 have B2:=B1
 obtain⟨u2,hu2,hur⟩:∃u2,(D.ay r k 0).find (nth t.pt k)=some u2∧u2.mr.refs=u.mr.refs:=⟨u,hu,rfl⟩
 have hd2:=qE (nth t.pt k) hu2
 rw[hur] at hd2
 have E:Hid (D.drain r k (nth t.pt k)=(D.ay r k 0).down (nth t.pt k)):=hid (by
  unfold Wd.drain
  rw[if_neg (by rw[hcn];omega)]
  simp only
  rw[if_neg (show ¬((D.ay r k 0).counted r k=true) by rw[hcd];decide)]
  rw[if_neg (by rw[hd2];exact hz)])
 have hb2:=B2.rf _ _ hu2
 obtain⟨i,x,hi,ht,hx⟩:=h.found hf
 have HC:=hid (aY h hi hx)
 have c0:=h.c0
 have d2:=(h.h.th i t x ht hx).c2
 obtain⟨g,hpa,hg,gc,gf,glo,gs⟩:=h.jG ht hx hk
 rw[hpa] at d2
 have HK:Hid (az (w.setCell ⟨g,k,none⟩ (.int .i64 0)) lo lab a (D.ay r k 0)):=hid (by rw[show D.ay r k 0={D with ts:=D.ts.set i {t with pt:=t.pt.set k 0}} from mg hi ht];exact gs 0)
 have HKT:Hid (Touch (fun b=>lo≤b) w (w.setCell ⟨g,k,none⟩ (.int .i64 0))):=hid ((Touch.refl (fun b=>lo≤b) w).setCell (p:=⟨g,k,none⟩) (fun _=>glo) _)
 clear h hf hi ht hx gs hpa
 have HCn:=hid (fun w' (h':az w' lo lab a (D.ay r k 0))=>gX h' (nth t.pt k))
 rw[hcn] at HCn
 have HCd:=hid (fun w' (h':az w' lo lab a (D.ay r k 0))=>nM h' r k)
 rw[hcd] at HCd
 have HDn0:=fun w' lab' a' (h':az w' lo lab' a' (D.ay r k 0))=>sD h' hu2 (by omega) (by omega)
 rw[hur] at HDn0
 have HDn:=hid HDn0
 clear HDn0
 have hne:(u.mr.refs==0)=false:=bL (by omega)
 have hzb:(u.mr.refs-1==0)=false:=bL hz
 generalize nth t.pt k=y at*
 clear hcn hcd hz B1 B2 hd2 hb2 B hu hu2 hur
 go_enter Tryz.func104,Tryz.ntmps104
 go_wp2_with fail
 refine HC.out.mono ?_
 rintro e w1 ⟨rfl,rfl⟩
 go_wp2_with fail
 generalize hw1:World.setCell _ _ _=w1 at*
 have H1:=hid HK.out
 have T1:=hid HKT.out
 clear hw1 HK HKT c0 d2 gc gf
 refine(HCn.out _ H1.out).mono ?_
 rintro e w2 ⟨rfl,rfl⟩
 go_wp2_with fail
 refine(HCd.out _ H1.out).mono ?_
 rintro e w3 ⟨rfl,hd⟩
 have H3:=hid (H1.out.dF hd)
 have T3:=hid (T1.out.trans (Touch.of_below (X:=fun b=>lo≤b) hd.new))
 clear hd
 go_wp2_with fail
 have H4:=hid H3.out
 have T4:=hid T3.out
 have EA:Hid (a.q=a.q):=hid rfl
 refine(HDn.out _ _ _ H4.out).mono ?_
 rintro e w5 ⟨rfl,k1,k2⟩
 have H5:=hid k1
 have T5:=hid (T4.out.trans k2)
 clear k1 k2
 go_wp2_with fail
 go_end0
 exact⟨rfl,by rw[E.out];exact H5.out.nE rfl,T5.out⟩
theorem KW(h:az w lo lab a D)(B:WB D){r:Int}(hf:D.find r=some t){k:Nat}(hk:k<t.pt.length):
  Calls Tryz.prog 104 #[.pointer (some ⟨a.q,0,none⟩),.int .i64 r,.int .i64 (k:Int)] w (dW w lo a.q (D.drain r k (nth t.pt k)) (.tuple #[])):=by
 by_cases hc:(D.ay r k 0).cnt (nth t.pt k)=0
 ·exact Qi h hf hk hc
 ·cases hu:(D.ay r k 0).find (nth t.pt k) with
  |none=>exact absurd (by unfold Wd.cnt;rw[hu]) hc
  |some u=>
   have h0:0<u.mr.refs:=by
    have:=(B.ay r k 0).rf _ _ hu
    unfold Wd.cnt at hc
    rw[hu] at hc
    simp only at hc
    omega
   cases hcd:(D.ay r k 0).counted r k with
   |true=>
    by_cases hz:u.mr.refs-1=0
    ·exact MR h B hf hk hu h0 hcd hz
    ·exact MQ h B hf hk hu h0 hcd hz
   |false=>
    by_cases hz:u.mr.refs-1=0
    ·exact MV h B hf hk hu h0 hcd hz
    ·exact MU h B hf hk hu h0 hcd hz
end
section
variable {w w':World} {lo:Nat} {lab:Nat→Nat} {a:WA} {D D':Wd} {i:Nat} {t t' u:Th} {x:TA} {n v b:Nat} {cl:List Nat} {ts:List Th}
theorem Hf(h:az w lo lab a D)(hg:D.grave=[]):Calls Tryz.prog 44 #[.pointer (some ⟨a.q,0,none⟩)] w (dW w lo a.q D (.tuple #[.bool false,.bool false])):=by
 have c12:=h.c12
 rw[hg] at c12
 have H:=hid h
 clear h hg
 go_enter Tryz.func44,Tryz.ntmps44
 go_wp2_with fail
 go_ret2
 exact⟨rfl,H.out.nE rfl,Touch.refl _ _⟩
theorem Il{r:Int}(f:cz→cz)(hf:D.find r=some t):(D.mark r f).find r=some {t with mr:=f t.mr}:=by
 rw[bG,hf]
 simp[eQ hf]
set_option maxHeartbeats 2000000 in
theorem Qo(h:az w lo lab a D)(B:WB D){g:Nat}{rest:List Nat}(hg:D.grave=g::rest)(hf:D.find (g:Int)=some t)(hd:t.mr.dead=true)(hw0:16≤D.w)(hw1:D.w≤256)(hl:0<t.mr.leaves)(hl1:t.mr.leaves≤1000){k:Nat}(hk:t.mr.left=(k:Int)+1)(hkb:k≤1000000)(hkp:k<t.pt.length)(hlt:D.ahead t.mr.leaves<(k:Int)+1):
  Calls Tryz.prog 44 #[.pointer (some ⟨a.q,0,none⟩)] w (dW w lo a.q (D.work g rest t) (.tuple #[.bool true,.bool false])):=by
 obtain⟨i,x,hi,ht,hx⟩:=h.found hf
 have HC:=hid (aX h hi hx)
 have c12:=h.c12
 rw[hg] at c12
 obtain⟨gb,off,hga,hgl,gc⟩:=h.gv 0 (by rw[aC,hg];simp)
 rw[hga] at c12
 have gc:w.cell? ⟨gb,off,none⟩=some (.int .i64 (g:Int)):=by rw[hg] at gc;simpa[ints,nth] using gc
 have c0:=h.c0
 have c1:=h.h.c1
 have c13:=h.c13
 have m6:=h.m6 ht hx
 have m7:=h.m7 ht hx
 obtain⟨n1,n2⟩:=h.ne ht hx
 obtain⟨k1,k2,k3,k4,k5,k6⟩:=h.zH ht hx
 have f6:=(h.mb i t x ht hx).1.free 6
 have f7:=(h.mb i t x ht hx).1.free 7
 have f13:=h.wb.free 13
 have hlen:(0:Int)<((g::rest).length:Int):=by simp only[List.length_cons];omega
 have hln:¬((g::rest).length:Int)=0:=by omega
 have hwa:IntKind.i64.wrap (t.mr.leaves-1)=t.mr.leaves-1:=IntWalk.i64_in _ (by omega)
 have hwb:IntKind.i64.wrap ((D.w:Int)-1)=(D.w:Int)-1:=IntWalk.i64_in _ (by omega)
 have hah:D.ahead t.mr.leaves=(t.mr.leaves-1)*((D.w:Int)-1):=by unfold Wd.ahead;rw[if_pos hl]
 have hmx:(t.mr.leaves-1)*((D.w:Int)-1)≤1000*256:=Int.mul_le_mul (by omega) (by omega) (by omega) (by omega)
 have hmn:0≤(t.mr.leaves-1)*((D.w:Int)-1):=Int.mul_nonneg (by omega) (by omega)
 have hwc:IntKind.i64.wrap ((t.mr.leaves-1)*((D.w:Int)-1))=D.ahead t.mr.leaves:=by rw[hah];exact IntWalk.i64_in _ (by omega)
 have hwk:IntKind.i64.wrap ((k:Int)+1-1)=(k:Int):=by rw[show(k:Int)+1-1=(k:Int) by omega];exact IntWalk.i64_in _ (by omega)
 have E:Hid ((D.mark (g:Int) (bK (k:Int))).drain g k (nth t.pt k)=D.work g rest t):=hid (by
  rw[xM hf hd]
  unfold Wd.work
  rw[if_pos (by rw[hk];exact hlt)]
  have e1:(t.mr.left-1).toNat=k:=by omega
  have e2:t.mr.left-1=(k:Int):=by omega
  rw[e1,e2]
  rfl)
 rw[hk] at m6
 have HDr:=hid (fun w' lab' a' (h':az w' lo lab' a' (D.mark (g:Int) (bK (k:Int))))=>KW h' (B.keep _ (bK (k:Int)) (fun _=>rfl) (fun _=>rfl)) (Il (bK (k:Int)) hf) (k:=k) hkp)
 have H:=hid h
 have HI:=hid hi
 have HT:=hid ht
 have HX:=hid hx
 have HF:=hid hf
 clear h hf hi ht hx hga
 generalize D.ahead t.mr.leaves=fr at*
 clear hah hmx hmn hd B hk hkp
 go_enter Tryz.func44,Tryz.ntmps44
 go_wp2_with fail
 refine HC.out.mono ?_
 rintro e w1 ⟨rfl,rfl⟩
 go_wp2_with fail
 go_quiet (fail)
 go_wp2_with fail
 have HQ:=hid (fun m:Nat=>(H.out.dF (w':=w.drewN m) ⟨m,rfl⟩).kN (f:=bK (k:Int)) HI.out HT.out HX.out (k:=6) (u:=.int .i64 (k:Int)) rfl)
 have HTQ:=hid (fun m:Nat=>(Touch.of_below (X:=fun b=>lo≤b) (dK.new (w:=w) (w':=w.drewN m) ⟨m,rfl⟩)).setCell (p:=⟨x.mb,6,none⟩) (fun _=>(H.out.mb i t x HT.out HX.out).2.1) (.int .i64 (k:Int)))
 generalize hw2:World.setCell _ _ _=w2 at*
 have H2:Hid (az w2 lo lab a (D.mark (g:Int) (bK (k:Int)))):=hid (by first|exact hw2▸HQ.out _|(rw[←hw2];exact HQ.out _))
 have T2:Hid (Touch (fun b=>lo≤b) w w2):=hid (by first|exact hw2▸HTQ.out _|(rw[←hw2];exact HTQ.out _))
 clear hw2 HQ HTQ
 refine(HDr.out _ _ _ H2.out).mono ?_
 rintro e w3 ⟨rfl,q1,q2⟩
 have H3:=hid q1
 have T3:=hid (T2.out.trans q2)
 clear q1 q2
 go_wp2_with fail
 go_ret2
 exact⟨rfl,by rw[←E.out];exact H3.out,T3.out⟩
set_option maxHeartbeats 2000000 in
theorem Qp(h:az w lo lab a D)(B:WB D){g:Nat}{rest:List Nat}(hg:D.grave=g::rest)(hf:D.find (g:Int)=some t)(hd:t.mr.dead=true)(hw0:16≤D.w)(hw1:D.w≤256)(hl:t.mr.leaves=0){k:Nat}(hk:t.mr.left=(k:Int)+1)(hkb:k≤1000000)(hkp:k<t.pt.length)(hlt:D.ahead t.mr.leaves<(k:Int)+1):
  Calls Tryz.prog 44 #[.pointer (some ⟨a.q,0,none⟩)] w (dW w lo a.q (D.work g rest t) (.tuple #[.bool true,.bool false])):=by
 obtain⟨i,x,hi,ht,hx⟩:=h.found hf
 have HC:=hid (aX h hi hx)
 have c12:=h.c12
 rw[hg] at c12
 obtain⟨gb,off,hga,hgl,gc⟩:=h.gv 0 (by rw[aC,hg];simp)
 rw[hga] at c12
 have gc:w.cell? ⟨gb,off,none⟩=some (.int .i64 (g:Int)):=by rw[hg] at gc;simpa[ints,nth] using gc
 have c0:=h.c0
 have c1:=h.h.c1
 have c13:=h.c13
 have m6:=h.m6 ht hx
 have m7:=h.m7 ht hx
 obtain⟨n1,n2⟩:=h.ne ht hx
 obtain⟨k1,k2,k3,k4,k5,k6⟩:=h.zH ht hx
 have f6:=(h.mb i t x ht hx).1.free 6
 have f7:=(h.mb i t x ht hx).1.free 7
 have f13:=h.wb.free 13
 have hlen:(0:Int)<((g::rest).length:Int):=by simp only[List.length_cons];omega
 have hln:¬((g::rest).length:Int)=0:=by omega
 have hwk:IntKind.i64.wrap ((k:Int)+1-1)=(k:Int):=by rw[show(k:Int)+1-1=(k:Int) by omega];exact IntWalk.i64_in _ (by omega)
 have E:Hid ((D.mark (g:Int) (bK (k:Int))).drain g k (nth t.pt k)=D.work g rest t):=hid (by
  rw[xM hf hd]
  unfold Wd.work
  rw[if_pos (by rw[hk];exact hlt)]
  have e1:(t.mr.left-1).toNat=k:=by omega
  have e2:t.mr.left-1=(k:Int):=by omega
  rw[e1,e2]
  rfl)
 rw[hk] at m6
 have HDr:=hid (fun w' lab' a' (h':az w' lo lab' a' (D.mark (g:Int) (bK (k:Int))))=>KW h' (B.keep _ (bK (k:Int)) (fun _=>rfl) (fun _=>rfl)) (Il (bK (k:Int)) hf) (k:=k) hkp)
 have hl0:¬(0:Int)<0:=by omega
 rw[hl] at m7
 have hk1:(0:Int)<(k:Int)+1:=by omega
 have H:=hid h
 have HI:=hid hi
 have HT:=hid ht
 have HX:=hid hx
 have HF:=hid hf
 clear h hf hi ht hx hga
 clear hd B hk hkp hl hlt
 go_enter Tryz.func44,Tryz.ntmps44
 go_wp2_with fail
 refine HC.out.mono ?_
 rintro e w1 ⟨rfl,rfl⟩
 go_wp2_with fail
 have HQ:=hid (fun m:Nat=>(H.out).kN (f:=bK (k:Int)) HI.out HT.out HX.out (k:=6) (u:=.int .i64 (k:Int)) rfl)
 have HTQ:=hid (fun m:Nat=>(Touch.refl (fun b=>lo≤b) w).setCell (p:=⟨x.mb,6,none⟩) (fun _=>(H.out.mb i t x HT.out HX.out).2.1) (.int .i64 (k:Int)))
 generalize hw2:World.setCell _ _ _=w2 at*
 have H2:Hid (az w2 lo lab a (D.mark (g:Int) (bK (k:Int)))):=hid (by first|exact hw2▸HQ.out 0|(rw[←hw2];exact HQ.out 0))
 have T2:Hid (Touch (fun b=>lo≤b) w w2):=hid (by first|exact hw2▸HTQ.out 0|(rw[←hw2];exact HTQ.out 0))
 clear hw2 HQ HTQ
 refine(HDr.out _ _ _ H2.out).mono ?_
 rintro e w3 ⟨rfl,q1,q2⟩
 have H3:=hid q1
 have T3:=hid (T2.out.trans q2)
 clear q1 q2
 go_wp2_with fail
 go_ret2
 exact⟨rfl,by rw[←E.out];exact H3.out,T3.out⟩
set_option maxHeartbeats 2000000 in
theorem Qn(h:az w lo lab a D)(B:WB D){g:Nat}{rest:List Nat}(hg:D.grave=g::rest)(hf:D.find (g:Int)=some t)(hd:t.mr.dead=true)(hw0:16≤D.w)(hw1:D.w≤256){k b:Nat}(hk:t.mr.leaves=(k:Int)+1)(hl1:k≤999)(hlb:t.lv[k]? =some (b:Int))(hlt:¬D.ahead ((k:Int)+1)<t.mr.left):
  Calls Tryz.prog 44 #[.pointer (some ⟨a.q,0,none⟩)] w (dW w lo a.q (D.work g rest t) (.tuple #[.bool true,.bool true])):=by
 obtain⟨i,x,hi,ht,hx⟩:=h.found hf
 have HC:=hid (aX h hi hx)
 have c12:=h.c12
 rw[hg] at c12
 obtain⟨gb,off,hga,hgl,gc⟩:=h.gv 0 (by rw[aC,hg];simp)
 rw[hga] at c12
 have gc:w.cell? ⟨gb,off,none⟩=some (.int .i64 (g:Int)):=by rw[hg] at gc;simpa[ints,nth] using gc
 have c0:=h.c0
 have c1:=h.h.c1
 have c13:=h.c13
 have m6:=h.m6 ht hx
 have m7:=h.m7 ht hx
 obtain⟨n1,n2⟩:=h.ne ht hx
 obtain⟨k1,k2,k3,k4,k5,k6⟩:=h.zH ht hx
 have f6:=(h.mb i t x ht hx).1.free 6
 have f7:=(h.mb i t x ht hx).1.free 7
 have f13:=h.wb.free 13
 have hlen:(0:Int)<((g::rest).length:Int):=by simp only[List.length_cons];omega
 have hln:¬((g::rest).length:Int)=0:=by omega
 have hwa:IntKind.i64.wrap ((k:Int)+1-1)=(k:Int):=by rw[show(k:Int)+1-1=(k:Int) by omega];exact IntWalk.i64_in _ (by omega)
 have hwb:IntKind.i64.wrap ((D.w:Int)-1)=(D.w:Int)-1:=IntWalk.i64_in _ (by omega)
 have hah:D.ahead ((k:Int)+1)=(k:Int)*((D.w:Int)-1):=by unfold Wd.ahead;rw[if_pos (by omega),show(k:Int)+1-1=(k:Int) by omega]
 have hmx:(k:Int)*((D.w:Int)-1)≤1000*256:=Int.mul_le_mul (by omega) (by omega) (by omega) (by omega)
 have hmn:0≤(k:Int)*((D.w:Int)-1):=Int.mul_nonneg (by omega) (by omega)
 have hwc:IntKind.i64.wrap ((k:Int)*((D.w:Int)-1))=D.ahead ((k:Int)+1):=by rw[hah];exact IntWalk.i64_in _ (by omega)
 have hwp:IntKind.i64.wrap (D.pending-1)=D.pending-1:=by have:=B.p0;have:=B.p1;exact IntWalk.i64_in _ (by omega)
 have E:Hid ((({D with pending:=D.pending-1}:Wd).mark (g:Int) (fun m=>{m with leaves:=(k:Int)})).gV g k b=D.work g rest t):=hid (by
  unfold Wd.work
  rw[if_neg (by rw[hk];exact hlt),if_pos (by rw[hk];omega)]
  have e1:(t.mr.leaves-1).toNat=k:=by omega
  have e2:t.mr.leaves-1=(k:Int):=by omega
  have e3:nth t.lv k=(b:Int):=by unfold nth;rw[List.getD_eq_getElem?_getD,hlb];rfl
  rw[e1,e2,e3]
  have:=nL (r:=(g:Int)) (s:=(g:Int)) (f:=fun t=>{t with lv:=t.lv.set k (-1)}) (g:=fun t=>{t with mr:={t.mr with leaves:=(k:Int)}}) (fun _=>⟨rfl,rfl⟩) (fun _=>⟨rfl,rfl⟩) (fun _ t=>rfl) D.ts
  show({D with ts:=bJ (g:Int) (fun t=>{t with lv:=t.lv.set k (-1)}) (bJ (g:Int) (fun t=>{t with mr:={t.mr with leaves:=(k:Int)}}) D.ts),clean:=b::D.clean,pending:=D.pending-1}:Wd)={D with ts:=bJ (g:Int) (fun t=>{t with mr:={t.mr with leaves:=(k:Int)}}) (bJ (g:Int) (fun t=>{t with lv:=t.lv.set k (-1)}) D.ts),clean:=b::D.clean,pending:=D.pending-1}
  rw[this])
 rw[hk] at m7
 have HCl:=hid B.cl
 have HLb:=hid hlb
 have hk0:(0:Int)<(k:Int)+1:=by omega
 have H:=hid h
 have HI:=hid hi
 have HT:=hid ht
 have HX:=hid hx
 have HF:=hid hf
 clear h hf hi ht hx hga
 generalize D.ahead ((k:Int)+1)=fr at*
 clear hah hmx hmn hd B hk hlb
 go_enter Tryz.func44,Tryz.ntmps44
 go_wp2_with fail
 refine HC.out.mono ?_
 rintro e w1 ⟨rfl,rfl⟩
 go_wp2_with fail
 go_quiet (fail)
 go_wp2_with fail
 have HQ:=hid (fun m:Nat=>((H.out.dF (w':=w.drewN m) ⟨m,rfl⟩).fI (D':={D with pending:=D.pending-1}) (k:=13) (u:=.int .i64 (D.pending-1)) rfl rfl rfl rfl rfl rfl rfl).kN (f:=fun m=>{m with leaves:=(k:Int)}) HI.out HT.out HX.out (k:=7) (u:=.int .i64 (k:Int)) rfl)
 have HTQ:=hid (fun m:Nat=>((Touch.of_below (X:=fun b=>lo≤b) (dK.new (w:=w) (w':=w.drewN m) ⟨m,rfl⟩)).setCell (p:=⟨a.q,13,none⟩) (fun _=>H.out.lq.1) (.int .i64 (D.pending-1))).setCell (p:=⟨x.mb,7,none⟩) (fun _=>(H.out.mb i t x HT.out HX.out).2.1) (.int .i64 (k:Int)))
 generalize hw2:World.setCell (World.setCell _ _ _) _ _=w2 at*
 have H2:Hid (az w2 lo lab a (({D with pending:=D.pending-1}:Wd).mark (g:Int) (fun m=>{m with leaves:=(k:Int)}))):=hid (by first|exact hw2▸HQ.out _|(rw[←hw2];exact HQ.out _))
 have T2:Hid (Touch (fun b=>lo≤b) w w2):=hid (by first|exact hw2▸HTQ.out _|(rw[←hw2];exact HTQ.out _))
 clear hw2 HQ HTQ c0 c1 c12 c13 m6 m7 gc f6 f7 f13
 have HA:=hid (iJ (D:={D with pending:=D.pending-1}) (fun m=>{m with leaves:=(k:Int)}) HI.out HT.out)
 have HFF:=hid (Il (D:={D with pending:=D.pending-1}) (fun m=>{m with leaves:=(k:Int)}) HF.out)
 have c0:=H2.out.c0
 have m7:=H2.out.m7 HA.out.2 HX.out
 go_region_with (first|(go_at_call 105;refine(Vn H2.out.drew HFF.out HLb.out (by have:=HCl.out;show D.clean.length≤8000;omega)).mono ?_;rintro e w5 ⟨rfl,⟨lab5,a5,e1,e2,e3,k9⟩,k8⟩;have H5:=hid k9;have T5:Hid (Touch (fun b=>lo≤b) w w5):=hid (T2.out.trans k8.qw);have EA:=hid e1;clear k9 k8 e1 e2 e3))
 all_goals
  go_wp2_with fail
  go_ret2
  exact⟨rfl,by rw[←E.out];exact H5.out.nE EA.out,T5.out⟩
set_option maxHeartbeats 2000000 in
theorem Qq(h:az w lo lab a D)(B:WB D){g:Nat}{rest:List Nat}(hg:D.grave=g::rest)(hf:D.find (g:Int)=some t)(hd:t.mr.dead=true)(hw0:16≤D.w)(hw1:D.w≤256)(hk:t.mr.leaves=0)(hlt:¬D.ahead t.mr.leaves<t.mr.left):
  Calls Tryz.prog 44 #[.pointer (some ⟨a.q,0,none⟩)] w (dW w lo a.q (D.work g rest t) (.tuple #[.bool true,.bool true])):=by
 obtain⟨i,x,hi,ht,hx⟩:=h.found hf
 have HC:=hid (aX h hi hx)
 have c12:=h.c12
 rw[hg] at c12
 obtain⟨gb,off,hga,hgl,gc⟩:=h.gv 0 (by rw[aC,hg];simp)
 rw[hga] at c12
 have gc:w.cell? ⟨gb,off,none⟩=some (.int .i64 (g:Int)):=by rw[hg] at gc;simpa[ints,nth] using gc
 have c0:=h.c0
 have c1:=h.h.c1
 have c13:=h.c13
 have m6:=h.m6 ht hx
 have m7:=h.m7 ht hx
 obtain⟨n1,n2⟩:=h.ne ht hx
 obtain⟨k1,k2,k3,k4,k5,k6⟩:=h.zH ht hx
 have f6:=(h.mb i t x ht hx).1.free 6
 have f7:=(h.mb i t x ht hx).1.free 7
 have f13:=h.wb.free 13
 have hlen:(0:Int)<((g::rest).length:Int):=by simp only[List.length_cons];omega
 have hln:¬((g::rest).length:Int)=0:=by omega
 have hwp:IntKind.i64.wrap (D.pending-1)=D.pending-1:=by have:=B.p0;have:=B.p1;exact IntWalk.i64_in _ (by omega)
 have E:Hid (({({D with pending:=D.pending-1}:Wd) with grave:=rest}:Wd).ky g t.h=D.work g rest t):=hid (by
  unfold Wd.work
  rw[if_neg hlt,if_neg (by omega)]
  rfl)
 rw[hk] at m7
 have HCl:=hid B.cl
 have HRl:Hid ((g::rest).length≤9000):=hid (by have:=B.gl;rw[hg] at this;omega)
 have hl0:¬(0:Int)<0:=by omega
 have hlt0:¬(0:Int)<t.mr.left:=by have:D.ahead t.mr.leaves=0:=by {rw[hk];exact ahead_zero};rw[this] at hlt;exact hlt
 have H:=hid h
 have HI:=hid hi
 have HT:=hid ht
 have HX:=hid hx
 have HF:=hid hf
 clear h hf hi ht hx
 clear hd B hk hlt
 go_enter Tryz.func44,Tryz.ntmps44
 go_wp2_with fail
 refine HC.out.mono ?_
 rintro e w1 ⟨rfl,rfl⟩
 go_wp2_with fail
 generalize hw2:World.setCell _ _ _=w2 at*
 have H2:Hid (az w2 lo lab a {D with pending:=D.pending-1}):=hid (hw2▸(H.out).fI (D':={D with pending:=D.pending-1}) (k:=13) (u:=.int .i64 (D.pending-1)) rfl rfl rfl rfl rfl rfl rfl)
 have T2:Hid (Touch (fun b=>lo≤b) w w2):=hid (hw2▸(Touch.refl (fun b=>lo≤b) w).setCell (p:=⟨a.q,13,none⟩) (fun _=>H.out.lq.1) _)
 clear hw2 c0 c1 c12 c13 m6 m7 gc f6 f7 f13
 have HRs:Hid (Calls Tryz.prog 106 #[.slice a.ga (g::rest).length a.gc] w2 (fA rest w2)):=hid (SQ a.ga a.gc g rest w2 (by have:=H2.out.gv;rw[show({D with pending:=D.pending-1}:Wd).grave=g::rest from hg] at this;exact this) HRl.out)
 rw[hga] at HRs
 refine HRs.out.mono ?_
 rintro e w3 ⟨ga,gc,rfl,hr,hfr,hb⟩
 obtain⟨lab3,k⟩:=H2.out.pU hb gc hr hfr
 have H3:Hid (az (w3.setCell ⟨a.q,12,none⟩ (.slice ga rest.length gc)) lo lab3 {a with ga:=ga,gc:=gc} {({D with pending:=D.pending-1}:Wd) with grave:=rest}):=hid k
 have T3:=hid ((T2.out.trans (Touch.of_below hb)).setCell (p:=⟨a.q,12,none⟩) (fun _=>H.out.lq.1) (.slice ga rest.length gc))
 have H2b:=hid (H2.out.later hb)
 clear k hr hfr hb HRs
 have c12:=H2b.out.c12
 have f12:=H2b.out.wb.free 12
 have c0:=H2b.out.c0
 go_wp2_with fail
 generalize hw4:World.setCell _ _ _=w4 at*
 clear hw4
 refine(Vo (t:=t) H3.out HF.out (by have:=HCl.out;show D.clean.length≤8000;omega)).mono ?_
 rintro e w5 ⟨rfl,⟨lab5,a5,e1,e2,e3,k9⟩,k8⟩
 have H5:=hid k9
 have T5:=hid (T3.out.trans k8)
 have EA:=hid e1
 clear k9 k8 e1 e2 e3
 go_wp2_with fail
 go_ret2
 exact⟨rfl,by rw[←E.out];exact H5.out.nE EA.out,T5.out⟩
theorem UK(h:az w lo lab a D)(B:WB D)(S:San D)(hw1:D.w≤256)(hz:∀t,t∈D.live→t.pt.length≤1000000):
  Calls Tryz.prog 44 #[.pointer (some ⟨a.q,0,none⟩)] w (dW w lo a.q D.step (.tuple #[.bool (!D.grave.isEmpty),.bool D.gives])):=by
 cases hg:D.grave with
 |nil=>
  rw[show D.step=D by unfold Wd.step;rw[hg],show D.gives=false by unfold Wd.gives;rw[hg]]
  exact Hf h hg
 |cons g rest=>
  obtain⟨t,htl,e,hf,hd,d,es⟩:=S.head hg
  have hgv:D.gives= !decide (D.ahead t.mr.leaves<t.mr.left):=by unfold Wd.gives;rw[hg];simp only;rw[hf]
  have hlv:=B.ll _ _ hf
  have hp:=hz t htl
  have l0:=d.l0
  have l1:=d.l1
  have f0:=d.f0
  have f1:=d.f1
  rw[es]
  show Calls _ _ _ _ (dW w lo a.q (D.work g rest t) (.tuple #[.bool true,.bool D.gives]))
  by_cases ha:D.ahead t.mr.leaves<t.mr.left
  ·rw[hgv,show(!decide (D.ahead t.mr.leaves<t.mr.left))=false by simp[ha]]
   have hk:t.mr.left=((t.mr.left-1).toNat:Int)+1:=by
    have h0:0≤D.ahead t.mr.leaves:=by
     unfold Wd.ahead
     refine Int.mul_nonneg ?_ (by have:=S.w;omega)
     split<;>omega
    omega
   by_cases hl:0<t.mr.leaves
   ·exact Qo h B hg hf hd S.w hw1 hl (by omega) hk (by omega) (by omega) (by omega)
   ·exact Qp h B hg hf hd S.w hw1 (by omega) hk (by omega) (by omega) (by omega)
  ·rw[hgv,show(!decide (D.ahead t.mr.leaves<t.mr.left))=true by simp[ha]]
   by_cases hl:0<t.mr.leaves
   ·have hk:t.mr.leaves=((t.mr.leaves-1).toNat:Int)+1:=by omega
    obtain⟨b,hb⟩:=d.there (t.mr.leaves-1).toNat (by omega)
    exact Qn h B hg hf hd S.w hw1 hk (by omega) hb (by rw[←hk];exact ha)
   ·exact Qq h B hg hf hd S.w hw1 (by omega) ha
end
end Go.Proofs.YtjmifnljckmimaaGreat.Pk
