/-
  Texts laid together: RefF, FloodHold, FloodDo, FloodPot, FloodRun, FloodRch, FloodAlb, TallyOne, FloodInv, TallyCntF, FloodFin, LinkAct, LinkActP, LinkAct2, LinkPlF.
-/
import Derived.Test.YtofhdfjkhfkhiaaGreatLinkPlEtc
import Derived.Test.YtofhdfjkhfkhiaaGreatLinkLawEtc
import Derived.Test.YtofhdfjkhfkhiaaGreatGravGrownEtc
import Derived.Test.YtofhdfjkhfkhiaaGreatWholeRowFEtc
import Derived.Test.YtofhdfjkhfkhiaaGreatTintActFEtc
import Derived.Test.YtofhdfjkhfkhiaaGreatRefG7Etc
import Derived.Deep.RegionHeld3
import Derived.Test.YtofhdfjkhfkhiaaGreatRecsEtc
namespace Go.Proofs.YtofhdfjkhfkhiaaGreat.Pk
open Lib (hid)
open Go.RowKit
set_option linter.unusedVariables false
set_option linter.unusedSimpArgs false
set_option maxRecDepth 100000
section
variable {w w':World} {lo:Nat} {lab:Nat→Nat} {a:WA} {D D':Wd} {i:Nat} {t t' u:Th} {x:TA}
theorem Ki(r:Int):(D.touch r).scanF=D.scanF:=by
 unfold Wd.touch
 split<;>rfl
set_option maxHeartbeats 1000000 in
theorem EL(h:aj w lo lab a D)(hf:D.find D.scan=none):Calls Tryz.prog 75 #[.pointer (some ⟨a.q,0,none⟩)] w (bD w lo a.q {D with scan:=0} (.tuple #[])):=by
 have HFi:=hid (fun w' (h':aj w' lo lab a D)=>Jo h' hf)
 have c0:=h.c0
 have c6:=h.c6
 have H:=hid h
 clear h hf
 go_enter Tryz.func75,Tryz.ntmps75
 go_wp2_with fail
 go_quiet ((go_at_call 64;exact(HFi.out _ (H.out.bE ⟨_,rfl⟩)).mono (fun e w' ⟨h1,h2⟩=>⟨h1,_,h2.symm⟩)))
 go_wp2_with fail
 generalize hwd:World.drewN _ _=w0 at*
 have H0:Hid (aj w0 lo lab a D):=hid (by rw[←hwd];exact H.out.bE ⟨_,rfl⟩)
 have T0:Hid (Touch (fun b=>lo≤b) w w0):=hid (by rw[←hwd];exact Touch.of_below (bR.new ⟨_,rfl⟩))
 clear hwd c0 c6
 have f6:=H0.out.wb.free 6
 have hz6:=H0.out.c6
 have HQ:Hid (∀m,bf ((w0.drewN m).setCell ⟨a.q,6,none⟩ (.int .i64 0)) lo a.q {D with scan:=0}∧Touch (fun b=>lo≤b) w ((w0.drewN m).setCell ⟨a.q,6,none⟩ (.int .i64 0))):=hid (fun m=>⟨((H0.out.bE (w':=w0.drewN m) ⟨m,rfl⟩).bP (D':={D with scan:=0}) (k:=6) (u:=.int .i64 0) rfl rfl rfl rfl rfl rfl rfl).iK rfl,(T0.out.trans (Touch.of_below (bR.new (w:=w0) (w':=w0.drewN m) ⟨m,rfl⟩))).setCell (p:=⟨a.q,6,none⟩) (fun _=>H0.out.lq.1) _⟩)
 go_quiet (fail)
 go_wp2_with fail
 go_end0
 exact⟨rfl,HQ.out _⟩
set_option maxHeartbeats 1000000 in
theorem GQ(h:aj w lo lab a D)(hf:D.find D.scan=some t)(hff:¬D.scanF<(t.pt.length:Int)):Calls Tryz.prog 75 #[.pointer (some ⟨a.q,0,none⟩)] w (bD w lo a.q {D with scan:=0} (.tuple #[])):=by
 obtain⟨i,x,hi,ht,hx⟩:=h.found hf
 have HFi:=hid (fun w' (h':aj w' lo lab a D)=>aI h' hi hx)
 have HT:=hid ht
 have HX:=hid hx
 have hge:(t.pt.length:Int)≤D.scanF:=by omega
 have c0:=h.c0
 have c6:=h.c6
 have H:=hid h
 clear h hf hi ht hx
 go_enter Tryz.func75,Tryz.ntmps75
 go_wp2_with fail
 go_quiet ((go_at_call 64;exact(HFi.out _ (H.out.bE ⟨_,rfl⟩)).mono (fun e w' ⟨h1,h2⟩=>⟨h1,_,h2.symm⟩)))
 go_wp2_with fail
 generalize hwd:World.drewN _ _=w0 at*
 have H0:Hid (aj w0 lo lab a D):=hid (by rw[←hwd];exact H.out.bE ⟨_,rfl⟩)
 have T0:Hid (Touch (fun b=>lo≤b) w w0):=hid (by rw[←hwd];exact Touch.of_below (bR.new ⟨_,rfl⟩))
 clear hwd c0 c6
 have f6:=H0.out.wb.free 6
 have hz6:=H0.out.c6
 have c7:=H0.out.c7
 have d2:=(H0.out.h.th i t x HT.out HX.out).c2
 have HQ:Hid (∀m,bf ((w0.drewN m).setCell ⟨a.q,6,none⟩ (.int .i64 0)) lo a.q {D with scan:=0}∧Touch (fun b=>lo≤b) w ((w0.drewN m).setCell ⟨a.q,6,none⟩ (.int .i64 0))):=hid (fun m=>⟨((H0.out.bE (w':=w0.drewN m) ⟨m,rfl⟩).bP (D':={D with scan:=0}) (k:=6) (u:=.int .i64 0) rfl rfl rfl rfl rfl rfl rfl).iK rfl,(T0.out.trans (Touch.of_below (bR.new (w:=w0) (w':=w0.drewN m) ⟨m,rfl⟩))).setCell (p:=⟨a.q,6,none⟩) (fun _=>H0.out.lq.1) _⟩)
 go_quiet (fail)
 go_wp2_with fail
 go_end0
 exact⟨rfl,HQ.out _⟩
set_option maxHeartbeats 1000000 in
theorem KF(h:aj w lo lab a D)(hf:D.find D.scan=some t){j:Nat}(hj:D.scanF=(j:Int))(hff:j<t.pt.length)(hjb:j≤1000000)(hl:D.ring.length≤8000):Calls Tryz.prog 75 #[.pointer (some ⟨a.q,0,none⟩)] w (bD w lo a.q {D.touch (nth t.pt j) with scanF:=(j:Int)+1} (.tuple #[])):=by
 obtain⟨i,x,hi,ht,hx⟩:=h.found hf
 have HFi:=hid (fun w' (h':aj w' lo lab a D)=>aI h' hi hx)
 have c0:=h.c0
 have c6:=h.c6
 have hlt:¬(t.pt.length:Int)≤(j:Int):=by omega
 have HJ:Hid (D.scanF=(j:Int)∧D.ring.length≤8000):=hid ⟨hj,hl⟩
 have hw1:IntKind.i64.wrap ((j:Int)+1)=(j:Int)+1:=IntWalk.i64_in _ (by omega)
 have H:=hid h
 have HT:=hid ht
 have HX:=hid hx
 have hj2:=hff
 clear h hf hi ht hx hj hff hl
 go_enter Tryz.func75,Tryz.ntmps75
 go_wp2_with fail
 go_quiet ((go_at_call 64;exact(HFi.out _ (H.out.bE ⟨_,rfl⟩)).mono (fun e w' ⟨h1,h2⟩=>⟨h1,_,h2.symm⟩)))
 go_wp2_with fail
 generalize hwd:World.drewN _ _=w0 at*
 have H0:Hid (aj w0 lo lab a D):=hid (by rw[←hwd];exact H.out.bE ⟨_,rfl⟩)
 have T0:Hid (Touch (fun b=>lo≤b) w w0):=hid (by rw[←hwd];exact Touch.of_below (bR.new ⟨_,rfl⟩))
 clear hwd c0 c6
 have c7:=H0.out.c7
 rw[HJ.out.1] at c7
 have d2:=(H0.out.h.th i t x HT.out HX.out).c2
 go_quiet (fail)
 go_wp2_with fail
 generalize hwd:World.drewN _ _=w1 at*
 have H1:Hid (aj w1 lo lab a D):=hid (by rw[←hwd];exact H0.out.bE ⟨_,rfl⟩)
 have T1:Hid (Touch (fun b=>lo≤b) w w1):=hid (by rw[←hwd];exact T0.out.trans (Touch.of_below (bR.new ⟨_,rfl⟩)))
 clear hwd c7 d2
 obtain⟨g,hpa,hg,gc,gf,glo,_⟩:=H1.out.jA HT.out HX.out hj2
 have d2:=(H1.out.h.th i t x HT.out HX.out).c2
 rw[hpa] at d2
 have c7:=H1.out.c7
 rw[HJ.out.1] at c7
 clear hpa
 have HW1:=hid H1.out.drew
 go_region_with (first|(go_at_call 133;refine(IW HW1.out (nth t.pt j) HJ.out.2).mono ?_;rintro e w6 ⟨rfl,⟨lab6,a6,ea6,k6⟩,k7⟩;have H6:=hid k6;have EA:=hid ea6;have T6:Hid (Touch (fun b=>lo≤b) w w6):=hid (T1.out.trans k7.kC);clear k6 k7 ea6))
 all_goals
  rw[←EA.out]
  have c7:w6.cell? ⟨a6.q,7,none⟩=some (.int .i64 (j:Int)):=by have:=H6.out.c7;rw[show(D.touch (nth t.pt j)).scanF=D.scanF from Ki _,HJ.out.1] at this;exact this
  have f7:=H6.out.wb.free 7
  have HQ:Hid (aj (w6.setCell ⟨a6.q,7,none⟩ (.int .i64 ((j:Int)+1))) lo lab6 a6 {D.touch (nth t.pt j) with scanF:=(j:Int)+1}):=hid (H6.out.bP (D':={D.touch (nth t.pt j) with scanF:=(j:Int)+1}) (k:=7) (u:=.int .i64 ((j:Int)+1)) rfl rfl rfl rfl rfl rfl rfl)
  have HTQ:=hid (T6.out.setCell (p:=⟨a6.q,7,none⟩) (fun _=>H6.out.lq.1) (.int .i64 ((j:Int)+1)))
  go_wp2_with fail
  go_end0
  exact⟨rfl,HQ.out.iK EA.out,HTQ.out⟩
theorem Sk(h:aj w lo lab a D)(hs:0≤D.scanF)(hl:∀t,t∈D.live→t.pt.length≤1000000)(hr:D.ring.length≤8000):Calls Tryz.prog 75 #[.pointer (some ⟨a.q,0,none⟩)] w (bD w lo a.q (D.kV (D.find D.scan)) (.tuple #[])):=by
 cases hf:D.find D.scan with
 |none=>exact EL h hf
 |some t=>
  unfold Wd.kV
  simp only
  by_cases hff:D.scanF<(t.pt.length:Int)
  ·rw[if_pos hff]
   obtain⟨j,hj⟩:=Int.eq_ofNat_of_zero_le hs
   have:=hl t (find_live hf).1
   rw[hj] at hff ⊢
   exact KF h hf hj (by omega) (by omega) hr
  ·rw[if_neg hff]
   exact GQ h hf hff
set_option maxHeartbeats 1000000 in
theorem Bw(h:aj w lo lab a D)(hk:0≤D.cursor)(hkb:D.cursor≤4294967295)(hf:D.find (D.cursor+1)=none):Calls Tryz.prog 77 #[.pointer (some ⟨a.q,0,none⟩)] w (bD w lo a.q {D with cursor:=D.cursor+1} (.tuple #[])):=by
 have c4:=h.c4
 have f4:=h.wb.free 4
 have hw1:IntKind.i64.wrap (D.cursor+1)=D.cursor+1:=IntWalk.i64_in _ (by omega)
 have H1:=hid (h.bP (D':={D with cursor:=D.cursor+1}) (k:=4) (u:=.int .i64 (D.cursor+1)) rfl rfl rfl rfl rfl rfl rfl)
 have T1:=hid ((Touch.refl (fun b=>lo≤b) w).setCell (p:=⟨a.q,4,none⟩) (fun _=>h.lq.1) (.int .i64 (D.cursor+1)))
 have HOf:=hid (dE H1.out (r:=D.cursor+1) hf)
 clear h hk hkb hf
 go_enter Tryz.func77,Tryz.ntmps77
 go_wp2_with fail
 generalize hwd:World.setCell _ _ _=w1 at*
 refine HOf.out.mono ?_
 rintro e w2 ⟨rfl,rfl⟩
 go_wp2_with fail
 go_end0
 exact⟨rfl,H1.out.iK rfl,T1.out⟩
set_option maxHeartbeats 1000000 in
theorem Bu(h:aj w lo lab a D)(hk:0≤D.cursor)(hkb:D.cursor≤4294967295)(hf:D.find (D.cursor+1)=some t)(hd:t.mr.dead=true):Calls Tryz.prog 77 #[.pointer (some ⟨a.q,0,none⟩)] w (bD w lo a.q {D with cursor:=D.cursor+1} (.tuple #[])):=by
 obtain⟨i,x,hi,ht,hx⟩:=h.found hf
 have c4:=h.c4
 have f4:=h.wb.free 4
 have hw1:IntKind.i64.wrap (D.cursor+1)=D.cursor+1:=IntWalk.i64_in _ (by omega)
 have H1:=hid (h.bP (D':={D with cursor:=D.cursor+1}) (k:=4) (u:=.int .i64 (D.cursor+1)) rfl rfl rfl rfl rfl rfl rfl)
 have T1:=hid ((Touch.refl (fun b=>lo≤b) w).setCell (p:=⟨a.q,4,none⟩) (fun _=>h.lq.1) (.int .i64 (D.cursor+1)))
 have HOf:=hid (aC H1.out (r:=D.cursor+1) hi hx)
 have m5:=H1.out.m5 ht hx
 rw[hd] at m5
 clear h hk hkb hf hi ht hx hd
 go_enter Tryz.func77,Tryz.ntmps77
 go_wp2_with fail
 generalize hwd:World.setCell _ _ _=w1 at*
 refine HOf.out.mono ?_
 rintro e w2 ⟨rfl,rfl⟩
 go_wp2_with fail
 go_end0
 exact⟨rfl,H1.out.iK rfl,T1.out⟩
theorem Kh(r k:Int):({D with cursor:=k}:Wd).touch r={D.touch r with cursor:=k}:=by
 have e:({D with cursor:=k}:Wd).aH r=D.aH r:=rfl
 unfold Wd.touch
 rw[e]
 split<;>rfl
set_option maxHeartbeats 1000000 in
theorem yx(h:aj w lo lab a D)(hk:0≤D.cursor)(hkb:D.cursor≤4294967295)(hf:D.find (D.cursor+1)=some t)(hd:t.mr.dead=false)(hc:t.mr.color=D.parity):Calls Tryz.prog 77 #[.pointer (some ⟨a.q,0,none⟩)] w (bD w lo a.q {D.settle (D.cursor+1) with cursor:=D.cursor+1} (.tuple #[])):=by
 obtain⟨i,x,hi,ht,hx⟩:=h.found hf
 have c4:=h.c4
 have f4:=h.wb.free 4
 have hw1:IntKind.i64.wrap (D.cursor+1)=D.cursor+1:=IntWalk.i64_in _ (by omega)
 have H1:=hid (h.bP (D':={D with cursor:=D.cursor+1}) (k:=4) (u:=.int .i64 (D.cursor+1)) rfl rfl rfl rfl rfl rfl rfl)
 have T1:=hid ((Touch.refl (fun b=>lo≤b) w).setCell (p:=⟨a.q,4,none⟩) (fun _=>h.lq.1) (.int .i64 (D.cursor+1)))
 have HOf:=hid (aC H1.out (r:=D.cursor+1) hi hx)
 have HSh:=hid (xg H1.out (D.cursor+1))
 have m5:=H1.out.m5 ht hx
 rw[hd] at m5
 have HI:=hid hi
 have HT:=hid ht
 have HX:=hid hx
 have hcb:(D.parity !=D.parity)=false:=by simp
 have HC:=hid hc
 clear h hk hkb hf hi ht hx hd hc
 go_enter Tryz.func77,Tryz.ntmps77
 go_wp2_with fail
 generalize hwd:World.setCell _ _ _=w1 at*
 clear hwd
 refine HOf.out.mono ?_
 rintro e w2 ⟨rfl,rfl⟩
 go_wp2_with fail
 refine HSh.out.mono ?_
 rintro e w2 ⟨rfl,hdr⟩
 have H2:=hid (H1.out.bE hdr)
 have T2:=hid (T1.out.trans (Touch.of_below (X:=fun b=>lo≤b) hdr.new))
 clear hdr c4 f4 m5
 have hsh:({D with cursor:=D.cursor+1}:Wd).shd (D.cursor+1)=D.shd (D.cursor+1):=rfl
 rw[hsh]
 have c2:w2.cell? ⟨a.q,2,none⟩=some (.int .i64 D.parity):=H2.out.c2
 have hne:=H2.out.ne HT.out HX.out
 have hn1:=hne.1
 have hn2:=hne.2
 have f3:w2.frozen? ⟨x.mb,3,none⟩=false:=(H2.out.mb i t x HT.out HX.out).1.free 3
 have f4:w2.frozen? ⟨x.mb,4,none⟩=false:=(H2.out.mb i t x HT.out HX.out).1.free 4
 have m0:=H2.out.m0 HT.out HX.out
 have m1:=H2.out.m1 HT.out HX.out
 have m3:=H2.out.m3 HT.out HX.out
 have m4:=H2.out.m4 HT.out HX.out
 have H3:Hid (aj ((w2.setCell ⟨x.mb,4,none⟩ (.int .i64 (D.shd (D.cursor+1)))).setCell ⟨x.mb,3,none⟩ (.int .i64 D.parity)) lo lab a {D.settle (D.cursor+1) with cursor:=D.cursor+1}):=hid (H2.out.DN (f:=fun m=>{m with shade:=D.parity,shadow:=D.shd (D.cursor+1)}) {t.mr with shadow:=D.shd (D.cursor+1)} HI.out HT.out HX.out rfl rfl)
 have T3:Hid (Touch (fun b=>lo≤b) w ((w2.setCell ⟨x.mb,4,none⟩ (.int .i64 (D.shd (D.cursor+1)))).setCell ⟨x.mb,3,none⟩ (.int .i64 D.parity))):=hid ((T2.out.setCell (p:=⟨x.mb,4,none⟩) (fun _=>(H2.out.mb i t x HT.out HX.out).2.1) _).setCell (p:=⟨x.mb,3,none⟩) (fun _=>(H2.out.mb i t x HT.out HX.out).2.1) _)
 have ht3:({D.settle (D.cursor+1) with cursor:=D.cursor+1}:Wd).ts[i]? =some {t with mr:={t.mr with shade:=D.parity,shadow:=D.shd (D.cursor+1)}}:=by
  show(D.mark (D.cursor+1) (fun m=>{m with shade:=D.parity,shadow:=D.shd (D.cursor+1)})).ts[i]? =_
  rw[kJ _ HI.out HT.out]
  have:=(List.getElem?_eq_some_iff.1 HT.out).1
  simp[this]
 have K0:Hid (((w2.setCell ⟨x.mb,4,none⟩ (.int .i64 (D.shd (D.cursor+1)))).setCell ⟨x.mb,3,none⟩ (.int .i64 D.parity)).cell? ⟨x.mb,0,none⟩=some (.int .i64 t.mr.refs)):=hid (by have e:=H3.out.m0 ht3 HX.out;exact e)
 have K1:Hid (((w2.setCell ⟨x.mb,4,none⟩ (.int .i64 (D.shd (D.cursor+1)))).setCell ⟨x.mb,3,none⟩ (.int .i64 D.parity)).cell? ⟨x.mb,1,none⟩=some (.int .i64 t.mr.color)):=hid (by have e:=H3.out.m1 ht3 HX.out;exact e)
 have K4:Hid (((w2.setCell ⟨x.mb,4,none⟩ (.int .i64 (D.shd (D.cursor+1)))).setCell ⟨x.mb,3,none⟩ (.int .i64 D.parity)).cell? ⟨x.mb,4,none⟩=some (.int .i64 (D.shd (D.cursor+1)))):=hid (by have e:=H3.out.m4 ht3 HX.out;exact e)
 have KC:Hid (((w2.setCell ⟨x.mb,4,none⟩ (.int .i64 (D.shd (D.cursor+1)))).setCell ⟨x.mb,3,none⟩ (.int .i64 D.parity)).cell? ⟨a.q,2,none⟩=some (.int .i64 D.parity)):=hid H3.out.c2
 clear ht3
 go_wp2_with fail
 generalize World.setCell (World.setCell w2 _ _) _ _=w3 at*
 clear c2 m0 m1 m3 m4 f3 f4
 have k0:=K0.out
 have k1:=K1.out
 have k4:=K4.out
 have kc:=KC.out
 rw[HC.out] at k1
 go_quiet (fail)
 go_wp2_with fail
 go_end0
 exact⟨rfl,(H3.out.bE ⟨_,rfl⟩).iK rfl,T3.out.trans (Touch.of_below (bR.new ⟨_,rfl⟩))⟩
set_option maxHeartbeats 1000000 in
theorem EQ(h:aj w lo lab a D)(hk:0≤D.cursor)(hkb:D.cursor≤4294967295)(hf:D.find (D.cursor+1)=some t)(hd:t.mr.dead=false)(hc:t.mr.color≠D.parity)(hl:¬D.shd (D.cursor+1)<t.mr.refs):Calls Tryz.prog 77 #[.pointer (some ⟨a.q,0,none⟩)] w (bD w lo a.q {D.settle (D.cursor+1) with cursor:=D.cursor+1} (.tuple #[])):=by
 obtain⟨i,x,hi,ht,hx⟩:=h.found hf
 have c4:=h.c4
 have f4:=h.wb.free 4
 have hw1:IntKind.i64.wrap (D.cursor+1)=D.cursor+1:=IntWalk.i64_in _ (by omega)
 have H1:=hid (h.bP (D':={D with cursor:=D.cursor+1}) (k:=4) (u:=.int .i64 (D.cursor+1)) rfl rfl rfl rfl rfl rfl rfl)
 have T1:=hid ((Touch.refl (fun b=>lo≤b) w).setCell (p:=⟨a.q,4,none⟩) (fun _=>h.lq.1) (.int .i64 (D.cursor+1)))
 have HOf:=hid (aC H1.out (r:=D.cursor+1) hi hx)
 have HSh:=hid (xg H1.out (D.cursor+1))
 have m5:=H1.out.m5 ht hx
 rw[hd] at m5
 have HI:=hid hi
 have HT:=hid ht
 have HX:=hid hx
 have hcb:(t.mr.color !=D.parity)=true:=by rw[bne_iff_ne];exact hc
 have hln:¬D.shd (D.cursor+1)<t.mr.refs:=hl
 clear h hk hkb hf hi ht hx hd hc hl
 go_enter Tryz.func77,Tryz.ntmps77
 go_wp2_with fail
 generalize hwd:World.setCell _ _ _=w1 at*
 clear hwd
 refine HOf.out.mono ?_
 rintro e w2 ⟨rfl,rfl⟩
 go_wp2_with fail
 refine HSh.out.mono ?_
 rintro e w2 ⟨rfl,hdr⟩
 have H2:=hid (H1.out.bE hdr)
 have T2:=hid (T1.out.trans (Touch.of_below (X:=fun b=>lo≤b) hdr.new))
 clear hdr c4 f4 m5
 have hsh:({D with cursor:=D.cursor+1}:Wd).shd (D.cursor+1)=D.shd (D.cursor+1):=rfl
 rw[hsh]
 have c2:w2.cell? ⟨a.q,2,none⟩=some (.int .i64 D.parity):=H2.out.c2
 have hne:=H2.out.ne HT.out HX.out
 have hn1:=hne.1
 have hn2:=hne.2
 have f3:w2.frozen? ⟨x.mb,3,none⟩=false:=(H2.out.mb i t x HT.out HX.out).1.free 3
 have f4:w2.frozen? ⟨x.mb,4,none⟩=false:=(H2.out.mb i t x HT.out HX.out).1.free 4
 have m0:=H2.out.m0 HT.out HX.out
 have m1:=H2.out.m1 HT.out HX.out
 have m3:=H2.out.m3 HT.out HX.out
 have m4:=H2.out.m4 HT.out HX.out
 have H3:Hid (aj ((w2.setCell ⟨x.mb,4,none⟩ (.int .i64 (D.shd (D.cursor+1)))).setCell ⟨x.mb,3,none⟩ (.int .i64 D.parity)) lo lab a {D.settle (D.cursor+1) with cursor:=D.cursor+1}):=hid (H2.out.DN (f:=fun m=>{m with shade:=D.parity,shadow:=D.shd (D.cursor+1)}) {t.mr with shadow:=D.shd (D.cursor+1)} HI.out HT.out HX.out rfl rfl)
 have T3:Hid (Touch (fun b=>lo≤b) w ((w2.setCell ⟨x.mb,4,none⟩ (.int .i64 (D.shd (D.cursor+1)))).setCell ⟨x.mb,3,none⟩ (.int .i64 D.parity))):=hid ((T2.out.setCell (p:=⟨x.mb,4,none⟩) (fun _=>(H2.out.mb i t x HT.out HX.out).2.1) _).setCell (p:=⟨x.mb,3,none⟩) (fun _=>(H2.out.mb i t x HT.out HX.out).2.1) _)
 have ht3:({D.settle (D.cursor+1) with cursor:=D.cursor+1}:Wd).ts[i]? =some {t with mr:={t.mr with shade:=D.parity,shadow:=D.shd (D.cursor+1)}}:=by
  show(D.mark (D.cursor+1) (fun m=>{m with shade:=D.parity,shadow:=D.shd (D.cursor+1)})).ts[i]? =_
  rw[kJ _ HI.out HT.out]
  have:=(List.getElem?_eq_some_iff.1 HT.out).1
  simp[this]
 have K0:Hid (((w2.setCell ⟨x.mb,4,none⟩ (.int .i64 (D.shd (D.cursor+1)))).setCell ⟨x.mb,3,none⟩ (.int .i64 D.parity)).cell? ⟨x.mb,0,none⟩=some (.int .i64 t.mr.refs)):=hid (by have e:=H3.out.m0 ht3 HX.out;exact e)
 have K1:Hid (((w2.setCell ⟨x.mb,4,none⟩ (.int .i64 (D.shd (D.cursor+1)))).setCell ⟨x.mb,3,none⟩ (.int .i64 D.parity)).cell? ⟨x.mb,1,none⟩=some (.int .i64 t.mr.color)):=hid (by have e:=H3.out.m1 ht3 HX.out;exact e)
 have K4:Hid (((w2.setCell ⟨x.mb,4,none⟩ (.int .i64 (D.shd (D.cursor+1)))).setCell ⟨x.mb,3,none⟩ (.int .i64 D.parity)).cell? ⟨x.mb,4,none⟩=some (.int .i64 (D.shd (D.cursor+1)))):=hid (by have e:=H3.out.m4 ht3 HX.out;exact e)
 have KC:Hid (((w2.setCell ⟨x.mb,4,none⟩ (.int .i64 (D.shd (D.cursor+1)))).setCell ⟨x.mb,3,none⟩ (.int .i64 D.parity)).cell? ⟨a.q,2,none⟩=some (.int .i64 D.parity)):=hid H3.out.c2
 clear ht3
 go_wp2_with fail
 generalize World.setCell (World.setCell w2 _ _) _ _=w3 at*
 clear c2 m0 m1 m3 m4 f3 f4
 have k0:=K0.out
 have k1:=K1.out
 have k4:=K4.out
 have kc:=KC.out
 go_quiet (fail)
 go_wp2_with fail
 go_end0
 exact⟨rfl,(H3.out.bE ⟨_,rfl⟩).iK rfl,T3.out.trans (Touch.of_below (bR.new ⟨_,rfl⟩))⟩
set_option maxHeartbeats 1000000 in
theorem Bv(h:aj w lo lab a D)(hk:0≤D.cursor)(hkb:D.cursor≤4294967295)(hf:D.find (D.cursor+1)=some t)(hd:t.mr.dead=false)(hc:t.mr.color≠D.parity)(hl:D.shd (D.cursor+1)<t.mr.refs)(hr:D.ring.length≤8000):Calls Tryz.prog 77 #[.pointer (some ⟨a.q,0,none⟩)] w (bD w lo a.q {(D.settle (D.cursor+1)).touch (D.cursor+1) with cursor:=D.cursor+1} (.tuple #[])):=by
 obtain⟨i,x,hi,ht,hx⟩:=h.found hf
 have c4:=h.c4
 have f4:=h.wb.free 4
 have hw1:IntKind.i64.wrap (D.cursor+1)=D.cursor+1:=IntWalk.i64_in _ (by omega)
 have H1:=hid (h.bP (D':={D with cursor:=D.cursor+1}) (k:=4) (u:=.int .i64 (D.cursor+1)) rfl rfl rfl rfl rfl rfl rfl)
 have T1:=hid ((Touch.refl (fun b=>lo≤b) w).setCell (p:=⟨a.q,4,none⟩) (fun _=>h.lq.1) (.int .i64 (D.cursor+1)))
 have HOf:=hid (aC H1.out (r:=D.cursor+1) hi hx)
 have HSh:=hid (xg H1.out (D.cursor+1))
 have m5:=H1.out.m5 ht hx
 rw[hd] at m5
 have HI:=hid hi
 have HT:=hid ht
 have HX:=hid hx
 have hcb:(t.mr.color !=D.parity)=true:=by rw[bne_iff_ne];exact hc
 have hln:D.shd (D.cursor+1)<t.mr.refs:=hl
 have HRl:=hid hr
 clear h hk hkb hf hi ht hx hd hc hl hr
 go_enter Tryz.func77,Tryz.ntmps77
 go_wp2_with fail
 generalize hwd:World.setCell _ _ _=w1 at*
 clear hwd
 refine HOf.out.mono ?_
 rintro e w2 ⟨rfl,rfl⟩
 go_wp2_with fail
 refine HSh.out.mono ?_
 rintro e w2 ⟨rfl,hdr⟩
 have H2:=hid (H1.out.bE hdr)
 have T2:=hid (T1.out.trans (Touch.of_below (X:=fun b=>lo≤b) hdr.new))
 clear hdr c4 f4 m5
 have hsh:({D with cursor:=D.cursor+1}:Wd).shd (D.cursor+1)=D.shd (D.cursor+1):=rfl
 rw[hsh]
 have c2:w2.cell? ⟨a.q,2,none⟩=some (.int .i64 D.parity):=H2.out.c2
 have hne:=H2.out.ne HT.out HX.out
 have hn1:=hne.1
 have hn2:=hne.2
 have f3:w2.frozen? ⟨x.mb,3,none⟩=false:=(H2.out.mb i t x HT.out HX.out).1.free 3
 have f4:w2.frozen? ⟨x.mb,4,none⟩=false:=(H2.out.mb i t x HT.out HX.out).1.free 4
 have m0:=H2.out.m0 HT.out HX.out
 have m1:=H2.out.m1 HT.out HX.out
 have m3:=H2.out.m3 HT.out HX.out
 have m4:=H2.out.m4 HT.out HX.out
 have H3:Hid (aj ((w2.setCell ⟨x.mb,4,none⟩ (.int .i64 (D.shd (D.cursor+1)))).setCell ⟨x.mb,3,none⟩ (.int .i64 D.parity)) lo lab a {D.settle (D.cursor+1) with cursor:=D.cursor+1}):=hid (H2.out.DN (f:=fun m=>{m with shade:=D.parity,shadow:=D.shd (D.cursor+1)}) {t.mr with shadow:=D.shd (D.cursor+1)} HI.out HT.out HX.out rfl rfl)
 have T3:Hid (Touch (fun b=>lo≤b) w ((w2.setCell ⟨x.mb,4,none⟩ (.int .i64 (D.shd (D.cursor+1)))).setCell ⟨x.mb,3,none⟩ (.int .i64 D.parity))):=hid ((T2.out.setCell (p:=⟨x.mb,4,none⟩) (fun _=>(H2.out.mb i t x HT.out HX.out).2.1) _).setCell (p:=⟨x.mb,3,none⟩) (fun _=>(H2.out.mb i t x HT.out HX.out).2.1) _)
 have ht3:({D.settle (D.cursor+1) with cursor:=D.cursor+1}:Wd).ts[i]? =some {t with mr:={t.mr with shade:=D.parity,shadow:=D.shd (D.cursor+1)}}:=by
  show(D.mark (D.cursor+1) (fun m=>{m with shade:=D.parity,shadow:=D.shd (D.cursor+1)})).ts[i]? =_
  rw[kJ _ HI.out HT.out]
  have:=(List.getElem?_eq_some_iff.1 HT.out).1
  simp[this]
 have K0:Hid (((w2.setCell ⟨x.mb,4,none⟩ (.int .i64 (D.shd (D.cursor+1)))).setCell ⟨x.mb,3,none⟩ (.int .i64 D.parity)).cell? ⟨x.mb,0,none⟩=some (.int .i64 t.mr.refs)):=hid (by have e:=H3.out.m0 ht3 HX.out;exact e)
 have K1:Hid (((w2.setCell ⟨x.mb,4,none⟩ (.int .i64 (D.shd (D.cursor+1)))).setCell ⟨x.mb,3,none⟩ (.int .i64 D.parity)).cell? ⟨x.mb,1,none⟩=some (.int .i64 t.mr.color)):=hid (by have e:=H3.out.m1 ht3 HX.out;exact e)
 have K4:Hid (((w2.setCell ⟨x.mb,4,none⟩ (.int .i64 (D.shd (D.cursor+1)))).setCell ⟨x.mb,3,none⟩ (.int .i64 D.parity)).cell? ⟨x.mb,4,none⟩=some (.int .i64 (D.shd (D.cursor+1)))):=hid (by have e:=H3.out.m4 ht3 HX.out;exact e)
 have KC:Hid (((w2.setCell ⟨x.mb,4,none⟩ (.int .i64 (D.shd (D.cursor+1)))).setCell ⟨x.mb,3,none⟩ (.int .i64 D.parity)).cell? ⟨a.q,2,none⟩=some (.int .i64 D.parity)):=hid H3.out.c2
 clear ht3
 go_wp2_with fail
 generalize World.setCell (World.setCell w2 _ _) _ _=w3 at*
 clear c2 m0 m1 m3 m4 f3 f4
 have k0:=K0.out
 have k1:=K1.out
 have k4:=K4.out
 have kc:=KC.out
 go_quiet (fail)
 go_wp2_with fail
 generalize hwd:World.drewN _ _=w4 at*
 have H4:Hid (aj w4 lo lab a {D.settle (D.cursor+1) with cursor:=D.cursor+1}):=hid (by rw[←hwd];exact H3.out.bE ⟨_,rfl⟩)
 have T4:Hid (Touch (fun b=>lo≤b) w w4):=hid (by rw[←hwd];exact T3.out.trans (Touch.of_below (bR.new ⟨_,rfl⟩)))
 clear hwd
 refine(IW H4.out (D.cursor+1) HRl.out).mono ?_
 rintro e w5 ⟨rfl,k1,k2⟩
 have K1:Hid (bf w5 lo a.q {(D.settle (D.cursor+1)).touch (D.cursor+1) with cursor:=D.cursor+1}):=hid (Kh (D:=D.settle (D.cursor+1)) (D.cursor+1) (D.cursor+1)▸k1)
 have K2:=hid (T4.out.trans k2)
 clear k1 k2
 go_wp2_with fail
 go_end0
 exact⟨rfl,K1.out,K2.out⟩
theorem Em{r:Int}(hf:D.find r=some t)(hc:t.mr.color=D.parity):(D.settle r).touch r=D.settle r:=by
 refine dP ?_
 have hfm:=find_mark (D:=D) (r:=r) (fun m=>{m with shade:=D.parity,shadow:=D.shd r}) r
 rw[hf] at hfm
 simp only[Option.map_some] at hfm
 have e:(D.settle r).find r=some {t with mr:={t.mr with shade:=D.parity,shadow:=D.shd r}}:=by
  rw[if_pos (find_at_r hf)] at hfm
  exact hfm
 unfold Wd.aH
 rw[e]
 have:(D.settle r).parity=D.parity:=rfl
 simp only[this,hc]
 simp
theorem Qj(h:aj w lo lab a D)(hk:0≤D.cursor)(hkb:D.cursor≤4294967295)(hr:D.ring.length≤8000):Calls Tryz.prog 77 #[.pointer (some ⟨a.q,0,none⟩)] w (bD w lo a.q D.pX (.tuple #[])):=by
 unfold Wd.pX
 cases hf:D.find (D.cursor+1) with
 |none=>exact Bw h hk hkb hf
 |some t=>
  unfold Wd.jf
  simp only
  cases hd:t.mr.dead with
  |true=>rw[if_pos rfl];exact Bu h hk hkb hf hd
  |false=>
   rw[if_neg (by decide)]
   by_cases hc:t.mr.color=D.parity
   ·rw[Em hf hc,ite_self]
    exact yx h hk hkb hf hd hc
   ·by_cases hl:D.shd (D.cursor+1)<t.mr.refs
    ·rw[if_pos hl];exact Bv h hk hkb hf hd hc hl hr
    ·rw[if_neg hl];exact EQ h hk hkb hf hd hc hl
theorem yn(h:aj w lo lab a D)(hp:D.phase≠2):Calls Tryz.prog 29 #[.pointer (some ⟨a.q,0,none⟩)] w (bD w lo a.q D (.bool false)):=by
 have c3:=h.c3
 have pb:(D.phase !=2)=true:=by rw[bne_iff_ne];exact hp
 have H:=hid h
 clear h hp
 go_enter Tryz.func29,Tryz.ntmps29
 go_wp2_with fail
 go_ret
 exact⟨rfl,H.out.iK rfl,Touch.refl _ _⟩
theorem Bj(h:aj w lo lab a D)(hp:D.phase=2)(hs:D.scan≠0)(HS:Calls Tryz.prog 75 #[.pointer (some ⟨a.q,0,none⟩)] w (bD w lo a.q D' (.tuple #[]))):Calls Tryz.prog 29 #[.pointer (some ⟨a.q,0,none⟩)] w (bD w lo a.q D' (.bool true)):=by
 have c3:=h.c3
 rw[hp] at c3
 have c6:=h.c6
 have sb:(D.scan !=0)=true:=by rw[bne_iff_ne];exact hs
 have HSc:=hid HS
 clear h hp hs HS
 go_enter Tryz.func29,Tryz.ntmps29
 go_wp2_with fail
 refine HSc.out.mono ?_
 rintro e w1 ⟨rfl,k1,k2⟩
 have K:=hid (And.intro k1 k2)
 clear k1 k2
 go_wp2_with fail
 go_ret
 exact⟨rfl,K.out.1,K.out.2⟩
set_option maxHeartbeats 1000000 in
theorem Bi(h:aj w lo lab a D)(hp:D.phase=2)(hs:D.scan=0){b:Nat}{rest:List Nat}(hr:D.ring=b::rest)(hb:b<1000000)(hl:D.ring.length≤8000):Calls Tryz.prog 29 #[.pointer (some ⟨a.q,0,none⟩)] w (bD w lo a.q {D with ring:=rest,scan:=(b:Int)+1,scanF:=0} (.bool true)):=by
 have c3:=h.c3
 rw[hp] at c3
 have c6:=h.c6
 rw[hs] at c6
 have c7:=h.c7
 have c11:=h.c11
 have hrow:=h.rg
 rw[hr] at c11 hrow hl
 obtain⟨gb,go,hga,hgb,hgc⟩:=hrow 0 (by simp[ints])
 have hgc:w.cell? ⟨gb,go,none⟩=some (.int .i64 (b:Int)):=hgc
 have hgn:gb≠a.q:=fun e=>by
  have h1:=h.lra
  rw[hr] at h1
  have h2:=(h1 (by simp) gb go hga).2.2
  rw[e,h.lq.2] at h2
  omega
 have hwb:IntKind.i64.wrap ((b:Int)+1)=(b:Int)+1:=IntWalk.i64_in _ (by omega)
 have f6:=h.wb.free 6
 have f7:=h.wb.free 7
 have hl1:(0:Int)<((b::rest).length:Int):=by first|(simp;done)|(simp;omega)
 have H2:=hid ((h.bP (D':={D with scan:=(b:Int)+1}) (k:=6) (u:=.int .i64 ((b:Int)+1)) rfl rfl rfl rfl rfl rfl rfl).bP (D':={D with scan:=(b:Int)+1,scanF:=0}) (k:=7) (u:=.int .i64 0) rfl rfl rfl rfl rfl rfl rfl)
 have T2:=hid (((Touch.refl (fun b=>lo≤b) w).setCell (p:=⟨a.q,6,none⟩) (fun _=>h.lq.1) (.int .i64 ((b:Int)+1))).setCell (p:=⟨a.q,7,none⟩) (fun _=>h.lq.1) (.int .i64 0))
 have HRs:Hid (∀wz,Row wz .i64 a.ra (ints (b::rest))→Calls Tryz.prog 76 #[.slice a.ra (b::rest).length a.rc] wz (dJ rest wz)):=hid (fun wz hz=>Ng a.ra a.rc b rest wz hz (by omega))
 have HRo:Hid (Row ((w.setCell ⟨a.q,6,none⟩ (.int .i64 ((b:Int)+1))).setCell ⟨a.q,7,none⟩ (.int .i64 0)) .i64 a.ra (ints (b::rest))):=hid (by have:=H2.out.rg;rw[show({D with scan:=(b:Int)+1,scanF:=0}:Wd).ring=b::rest from hr] at this;exact this)
 have c11b:((w.setCell ⟨a.q,6,none⟩ (.int .i64 ((b:Int)+1))).setCell ⟨a.q,7,none⟩ (.int .i64 0)).cell? ⟨a.q,11,none⟩=some (.slice a.ra (b::rest).length a.rc):=by have:=H2.out.c11;rw[show({D with scan:=(b:Int)+1,scanF:=0}:Wd).ring=b::rest from hr] at this;exact this
 have HC11:=hid c11b
 have HR11:=hid hga
 rw[hga] at c11
 clear h hp hs hr hb hrow c11b
 go_enter Tryz.func29,Tryz.ntmps29
 go_wp2_with fail
 generalize hw2:World.setCell (World.setCell _ _ _) _ _=w2 at*
 have c11b:=HC11.out
 have HRs2:=HRs.out w2 HRo.out
 rw[HR11.out] at c11b HRs2
 have HRs3:=hid HRs2
 clear hw2 HRs2 c3 c6 c7 c11 hgc f6 f7
 go_wp2_with fail
 refine HRs3.out.mono ?_
 rintro e w3 ⟨ra,rc,rfl,hr,hfr,hb⟩
 obtain⟨lab3,k⟩:=H2.out.jG hb rc hr hfr
 have H3:Hid (aj (w3.setCell ⟨a.q,11,none⟩ (.slice ra rest.length rc)) lo lab3 {a with ra:=ra,rc:=rc} {D with ring:=rest,scan:=(b:Int)+1,scanF:=0}):=hid k
 have T3:=hid ((T2.out.trans (Touch.of_below hb)).setCell (p:=⟨a.q,11,none⟩) (fun _=>H2.out.lq.1) (.slice ra rest.length rc))
 have H2b:=hid (H2.out.later hb)
 clear k hr hfr hb
 have c11:=H2b.out.c11
 have f11:=H2b.out.wb.free 11
 go_wp2_with fail
 go_ret
 exact⟨rfl,H3.out.iK rfl,T3.out⟩
set_option maxHeartbeats 1000000 in
theorem Bg(h:aj w lo lab a D)(hp:D.phase=2)(hs:D.scan=0)(hr:D.ring=[])(hk:D.cursor<(D.n:Int))(HS:∀wz,aj wz lo lab a D→Calls Tryz.prog 77 #[.pointer (some ⟨a.q,0,none⟩)] wz (bD wz lo a.q D' (.tuple #[]))):Calls Tryz.prog 29 #[.pointer (some ⟨a.q,0,none⟩)] w (bD w lo a.q D' (.bool true)):=by
 have c3:=h.c3
 rw[hp] at c3
 have c6:=h.c6
 rw[hs] at c6
 have c11:=h.c11
 rw[hr] at c11
 have c4:=h.c4
 have c0:=h.c0
 have c1:=h.h.c0
 have H:=hid h
 have HSc:=hid HS
 clear h hp hs HS hr
 go_enter Tryz.func29,Tryz.ntmps29
 go_wp2_with fail
 go_quiet (fail)
 go_wp2_with fail
 generalize hwd:World.drewN _ _=w1 at*
 have H1:Hid (aj w1 lo lab a D):=hid (by rw[←hwd];exact H.out.bE ⟨_,rfl⟩)
 have T1:Hid (Touch (fun b=>lo≤b) w w1):=hid (by rw[←hwd];exact Touch.of_below (bR.new ⟨_,rfl⟩))
 clear hwd
 refine(HSc.out _ H1.out).mono ?_
 rintro e w2 ⟨rfl,k1,k2⟩
 have K:=hid (And.intro k1 (T1.out.trans k2))
 clear k1 k2
 go_wp2_with fail
 go_ret
 exact⟨rfl,K.out.1,K.out.2⟩
theorem EJ(h:aj w lo lab a D)(hp:D.phase=2)(hs:D.scan=0)(hr:D.ring=[])(hk:¬D.cursor<(D.n:Int)):Calls Tryz.prog 29 #[.pointer (some ⟨a.q,0,none⟩)] w (bD w lo a.q D (.bool false)):=by
 have c3:=h.c3
 rw[hp] at c3
 have c6:=h.c6
 rw[hs] at c6
 have c11:=h.c11
 rw[hr] at c11
 have c4:=h.c4
 have c0:=h.c0
 have c1:=h.h.c0
 have H:=hid h
 clear h hp hs hr
 go_enter Tryz.func29,Tryz.ntmps29
 go_wp2_with fail
 go_quiet (fail)
 go_wp2_with fail
 go_ret
 exact⟨rfl,(H.out.bE ⟨_,rfl⟩).iK rfl,Touch.of_below (bR.new ⟨_,rfl⟩)⟩
theorem Qh(h:aj w lo lab a D)(hk0:0≤D.cursor)(hkb:D.cursor≤4294967295)(hf0:0≤D.scanF)(hl:∀t,t∈D.live→t.pt.length≤1000000)(hr:D.ring.length≤8000)(hrb:∀b,b∈D.ring→b<1000000):
  Calls Tryz.prog 29 #[.pointer (some ⟨a.q,0,none⟩)] w (bD w lo a.q D.flood (.bool D.floodB)):=by
 by_cases hp:D.phase=2
 ·by_cases hs:D.scan=0
  ·cases hrg:D.ring with
   |cons b rest=>
    have e:D.floodB=true:=by unfold Wd.floodB;rw[hrg];simp[hp]
    have e2:D.flood={D with ring:=rest,scan:=(b:Int)+1,scanF:=0}:=by unfold Wd.flood;rw[e,if_pos rfl,if_pos hs,hrg]
    rw[e,e2]
    exact Bi h hp hs hrg (hrb b (by rw[hrg];exact List.mem_cons_self ..)) hr
   |nil=>
    by_cases hk:D.cursor<(D.n:Int)
    ·have e:D.floodB=true:=by unfold Wd.floodB;simp[hp,hk]
     have e2:D.flood=D.pX:=by unfold Wd.flood;rw[e,if_pos rfl,if_pos hs,hrg]
     rw[e,e2]
     exact Bg h hp hs hrg hk (fun wz hz=>Qj hz hk0 hkb hr)
    ·have e:D.floodB=false:=by unfold Wd.floodB;rw[hrg];simp[hs,hk]
     have e2:D.flood=D:=by unfold Wd.flood;rw[e,if_neg (by decide)]
     rw[e,e2]
     exact EJ h hp hs hrg hk
  ·have e:D.floodB=true:=by unfold Wd.floodB;simp[hp,hs]
   have e2:D.flood=D.kV (D.find D.scan):=by unfold Wd.flood;rw[e,if_pos rfl,if_neg hs]
   rw[e,e2]
   exact Bj h hp hs (Sk h hf0 hl hr)
 ·have e:D.floodB=false:=by unfold Wd.floodB;rw[decide_eq_false hp];rfl
  have e2:D.flood=D:=by unfold Wd.flood;rw[e,if_neg (by decide)]
  rw[e,e2]
  exact yn h hp
end
structure zC (D D':Wd):Prop where
 par:D'.parity=D.parity
 sc:D.scan=0→D'.scan=0
 sf:0≤D.scanF→0≤D'.scanF
 mem:∀s,s∈D'.live→(s.mr.color=D.parity∧s.mr.count=D.parity)∨∃v,v∈D.live∧s.h=v.h∧(s.mr.dead=false→v.mr.dead=false)∧(v.mr.color=D.parity→s.mr.color=D.parity)∧(v.mr.count=D.parity→s.mr.count=D.parity)
def SA(D:Wd):Prop:=∀u,u∈D.live→u.mr.count=D.parity
def VH(hold:Nat→Nat)(D:Wd):Prop:=∀u,u∈D.live→u.mr.dead=false→0<hold u.h→(u.h:Int)<D.cursor→u.mr.color=D.parity
section
variable {D D' D2:Wd} {t u v s:Th} {r x y:Int} {g:Th→Th} {E:Int→Prop} {hold hold':Nat→Nat}
theorem zC.refl(D:Wd):zC D D:=⟨rfl,fun h=>h,fun h=>h,fun s hs=>.inr ⟨s,hs,rfl,fun h=>h,fun h=>h,fun h=>h⟩⟩
theorem zC.trans(h:zC D D')(k:zC D' D2):zC D D2:=⟨k.par.trans h.par,fun e=>k.sc (h.sc e),fun e=>k.sf (h.sf e),fun s hs=>by
 rcases k.mem s hs with⟨a,b⟩|⟨v,hv,e1,e2,e3,e4⟩
 ·exact .inl ⟨a.trans h.par,b.trans h.par⟩
 ·rw[h.par] at e3 e4
  rcases h.mem v hv with⟨a,b⟩|⟨u,hu,f1,f2,f3,f4⟩
  ·exact .inl ⟨e3 a,e4 b⟩
  ·exact .inr ⟨u,hu,e1.trans f1,fun z=>f2 (e2 z),fun z=>e3 (f3 z),fun z=>e4 (f4 z)⟩⟩
theorem zC.same(h:D'.ts=D.ts)(hp:D'.parity=D.parity)(hs:D'.scan=D.scan)(hf:D'.scanF=D.scanF):zC D D':=by
 have hl:D'.live=D.live:=by unfold Wd.live;rw[h]
 refine⟨hp,fun e=>hs.trans e,fun e=>by rw[hf];exact e,fun s hs=> ?_⟩
 rw[hl] at hs
 exact .inr ⟨s,hs,rfl,fun h=>h,fun h=>h,fun h=>h⟩
theorem zC.upd(S:San D)(hf:D.find r=some t)(hts:D'.ts=updL r g D.ts)(hp:D'.parity=D.parity)(hs:D.scan=0→D'.scan=0)(hsf:D'.scanF=D.scanF)(hh:(g t).h=t.h)(h1:(g t).mr.dead=false→t.mr.dead=false)(h2:t.mr.color=D.parity→(g t).mr.color=D.parity)(h3:t.mr.count=D.parity→(g t).mr.count=D.parity):zC D D':=
 ⟨hp,hs,fun e=>by rw[hsf];exact e,fun s k=>by
  unfold Wd.live at k
  rw[hts] at k
  rcases eZ S.nd hf k with rfl|⟨k,_⟩
  ·exact .inr ⟨t,(find_live hf).1,hh,h1,h2,h3⟩
  ·exact .inr ⟨s,k,rfl,fun h=>h,fun h=>h,fun h=>h⟩⟩
theorem zC.mark(S:San D)(r:Int){f:Mrk→Mrk}(h1:∀m,(f m).dead=false→m.dead=false)(h2:∀m,m.color=D.parity→(f m).color=D.parity)(h3:∀m,m.count=D.parity→(f m).count=D.parity):zC D (D.mark r f):=by
 cases hf:D.find r with
 |none=>rw[bL f hf];exact zC.refl D
 |some t=>exact zC.upd (g:=fun t=>{t with mr:=f t.mr}) S hf rfl rfl (fun h=>h) rfl rfl (h1 _) (h2 _) (h3 _)
theorem zC.touch(S:San D)(r:Int):zC D (D.touch r):=by
 unfold Wd.touch
 split
 ·exact(zC.mark S r (f:=fun m=>{m with color:=D.parity}) (fun _ h=>h) (fun _ _=>rfl) (fun _ h=>h)).trans (zC.same rfl rfl rfl rfl)
 ·exact zC.refl D
theorem xu.cursor(H:xu E D)(A:SA D)(k:Int):xu E {D with cursor:=k}:=by
 refine⟨fun s hs h1 h2 h3=> ?_,fun s hs _=>A s hs⟩
 have e:sumL (({D with cursor:=k}:Wd).ph ((s.h:Int)+1)) D.ts=sumL (D.ph ((s.h:Int)+1)) D.ts:=mK (fun u hu=>by
  show Py D.parity k D.field _ u=Py D.parity D.cursor D.field _ u
  unfold Py Ub
  rw[if_pos (A u hu),if_pos (A u hu)])
 show sv D.parity s.mr=((sumL (({D with cursor:=k}:Wd).ph ((s.h:Int)+1)) D.ts:Nat):Int)
 rw[e]
 exact H.sh s hs h1 h2 h3
structure FL (hold:Nat→Nat) (D:Wd):Prop where
 ho:xu (fun _=>False) D
 tri:QD D
 al:SA D
 vh:VH hold D
 sf:0≤D.scanF
def QB(D:Wd):Prop:=Dyed D∧∀t,t∈D.ts→t.mr.color=0
inductive FM (hold:Nat→Nat) (D:Wd):Prop where
 |idle:D.phase=0→QB D→FM hold D
 |cnt:D.phase=1→xu (fun _=>False) D→QD D→D.scan=0→FM hold D
 |fl:D.phase=2→FL hold D→FM hold D
theorem QB.touch(h:QB D)(r:Int):QB (D.touch r):=by
 refine⟨h.1.touch r,?_⟩
 rcases iG (D:=D) r with k|k
 ·rw[k]
  exact h.2
 ·rw[k]
  exact Bc (P:=fun t=>t.mr.color=0) (g:=fun t=>{t with mr:={t.mr with color:=D.parity}}) (fun t _=>h.1.1) r h.2
theorem QB.lT(h:QB D)(r:Int):QB (D.lT r):=⟨h.1.lT r,Bc (P:=fun t=>t.mr.color=0) (g:=fun t=>{t with mr:={t.mr with color:=D.parity,count:=D.parity,shade:=D.parity,shadow:=0}}) (fun t _=>h.1.1) r h.2⟩
theorem flood_idle(h:D.floodB=false):D.flood=D:=by unfold Wd.flood;rw[h];rfl
theorem LB(h:D.phase≠2):D.floodB=false:=by unfold Wd.floodB;rw[decide_eq_false h];rfl
end
section
variable {c:Cf} {zs:List Int} {D:Wd} {t:Th} {r:Int}
theorem Jw(hf:D.find r=some t):Does c D 106 [.int .i64 r] 4 (D.settle r) (.tuple #[]):=fun zs hz R=>by
 obtain⟨h1,h2,h3,h4,h5⟩:=R.fA hf
 obtain⟨htl,er⟩:=find_live hf
 have hlt:=R.hlt htl
 have hwf:=hz.wf (ae c t.h 0)
 have C1:Run c 38 [] zs 1 zs (.int .i64 D.parity):=fun p m w hG=>aZ hG _ (R.reg 10 (by omega) (by omega))
 subst er
 by_cases hs:t.mr.shade=D.parity
 ·rw[JY hf hs]
  exact⟨zs,⟨2,by omega,vv hlt hz.may rfl hwf.1 hwf.2 (by rw[h5.cS];exact hs) C1⟩,R⟩
 ·have ok:=mo h1 h2 (bK (nth zs (ae c t.h 0))).1 (bK (nth zs (ae c t.h 0))).2.1 (show 1-uS (nth zs (ae c t.h 0))=0∨1-uS (nth zs (ae c t.h 0))=1 by have:=(bK (nth zs (ae c t.h 0))).2.2.1;omega) (bK (nth zs (ae c t.h 0))).2.2.2
  obtain⟨_,_,_,_,_,_,_,y0,y1⟩:=ok
  exact⟨_,⟨4,by omega,xA hlt hz.may rfl hwf.1 hwf.2 (by rw[h5.cS];exact hs) (Qk h1 h2) y0 y1 C1⟩,Kc R hz hf hs⟩
theorem FE(h:D.scan=0):Does c D 46 [] 1 D (.bool false):=fun zs hz R=>
 ⟨zs,⟨1,by omega,Fv ((R.reg 14 (by omega) (by omega)).trans h)⟩,R⟩
theorem OX(S:San D)(h:D.scan≠0):Does c D 46 [] 44 (D.kV (D.find D.scan)) (.bool true):=fun zs hz R=>by
 have h14:nth zs 14=D.scan:=R.reg 14 (by omega) (by omega)
 have h15:nth zs 15=D.scanF:=R.reg 15 (by omega) (by omega)
 obtain⟨⟨s0,s1⟩,f0,f1⟩:=R.scans hz
 have h64:In64 D.scan:=by constructor<;>omega
 have hob:=fe R D.scan
 cases hf:D.find D.scan with
 |none=>
  rw[hf] at hob
  obtain⟨d1,hd1,C1⟩:=jr.qC c zs D.clean D.bH D.scan hz R.heap h64 hob
  exact⟨_,⟨1+1+d1+1,by omega,tC h14 h h15 f0 C1⟩,R.Ay hz 0⟩
 |some t=>
  rw[hf] at hob
  obtain⟨d1,hd1,C1⟩:=jr.iA c zs D.clean D.bH D.scan t.ob hz R.heap hob
  unfold Wd.kV
  simp only
  by_cases hff:D.scanF<(t.pt.length:Int)
  ·rw[if_pos hff]
   obtain⟨j,hj⟩:=Int.eq_ofNat_of_zero_le f0
   have hjl:j<t.pt.length:=by omega
   have hjn:D.scanF.toNat=j:=by omega
   have hsz:=(R.II hz.may S (find_live hf).1).small
   obtain⟨x64,e,d2,hd2,C2⟩:=Ig S hz R hf hjl
   obtain⟨zs3,⟨d3,hd3,C3⟩,R3,hz3⟩:=(tintFns.touch c D (nth t.pt j) x64).at hz R
   rw[hjn]
   rw[hj] at h15 ⊢
   exact⟨_,⟨1+1+d1+d2+d3+1,by omega,Oz h14 h h15 (by omega) (by omega) (show(j:Int)<(t.ob.np:Int) by show(j:Int)<(t.pt.length:Int);omega) C1 C2 C3⟩,R3.DK hz3 _⟩
  ·rw[if_neg hff]
   exact⟨_,⟨1+1+d1+1,by omega,tC h14 h h15 (show(t.ob.np:Int)≤D.scanF by show(t.pt.length:Int)≤D.scanF;omega) C1⟩,R.Ay hz 0⟩
theorem Ac(h:D.ring=[]):Does c D 47 [] 26 D (.bool false):=fun zs hz R=>by
 have hr:=R.ring
 rw[h] at hr
 obtain⟨d1,hd1,C1⟩:=ringFns.take_no c zs hz hr
 exact⟨zs,⟨d1,by omega,zQ C1⟩,R⟩
theorem Ju{b:Nat}{rest:List Nat}(h:D.ring=b::rest):Does c D 47 [] 26 {D with ring:=rest,scan:=(b:Int)+1,scanF:=0} (.bool true):=fun zs hz R=>by
 have hr:=R.ring
 rw[h] at hr
 have A:=ringFns.take_yes c zs rest b hz hr
 have hz1:=A.wz hz
 obtain⟨d1,hd1,C1⟩:=A
 have hb:b<c.N:=hr.lt b (List.mem_cons_self ..)
 have hmn:=hz.may.n
 have R1:=Ej R hz h
 have R2:=R1.Ay hz1 ((b:Int)+1)
 have R3:=R2.DK (hz1.set 14 (by omega) (by omega)) 0
 exact⟨_,⟨d1+1+1,by omega,Jj (by omega) C1⟩,R3⟩
theorem Mw{D':Wd}(h:D'.field=D.field)(k:Int):D'.move k D.field={D' with cursor:=k}:=by
 unfold Wd.move
 rw[←h]
theorem OW(S:San D)(h:D.cursor<(D.n:Int)):Does c D 48 [] 42 D.pX (.bool true):=fun zs hz R=>by
 have hm:=hz.may
 have hmn:=hm.n
 have hN:=R.n
 obtain⟨⟨k0,k1⟩,f0,f1⟩:=R.Fg hz
 have hk':D.cursor<(c.N:Int):=by rw[←hN];exact h
 have hr:In64 (D.cursor+1):=by constructor<;>omega
 obtain⟨zs1,⟨d1,hd1,C1⟩,R1,hz1⟩:=(tintFns.at_ c D).at hz R
 obtain⟨zs2,⟨d2,hd2,C2⟩,R2,hz2⟩:=(gd_is (c:=c) (D:=D) hr).at hz1 R1
 have hfin:∀D':Wd,D'.field=D.field→Does c D' 43 [.int .i64 (D.cursor+1),.int .i64 D.field] 2 {D' with cursor:=D.cursor+1} (.bool true):=fun D' hD=>by
  have:=qA (c:=c) (D:=D') (x:=D.cursor+1) (y:=D.field) (by omega) (by omega) f0 f1
  rwa[Mw hD] at this
 unfold Wd.pX
 cases hf:D.find (D.cursor+1) with
 |none=>
  rw[hf] at C2
  obtain⟨zs3,⟨d3,hd3,C3⟩,R3,hz3⟩:=(hfin D rfl).at hz2 R2
  exact⟨zs3,⟨d1+d2+d3,by omega,zS k0 hk' hm C1 C2 C3⟩,R3⟩
 |some t=>
  rw[hf] at C2
  obtain⟨zs3,⟨d3,hd3,C3⟩,R3,hz3⟩:=(tintFns.dead c D (D.cursor+1) hr).at hz2 R2
  have hdd:D.dead (D.cursor+1)=t.mr.dead:=by unfold Wd.dead;rw[hf]
  rw[hdd] at C3
  unfold Wd.jf
  simp only
  by_cases hd:t.mr.dead=true
  ·rw[hd] at C3
   rw[if_pos hd]
   obtain⟨zs4,⟨d4,hd4,C4⟩,R4,hz4⟩:=(hfin D rfl).at hz3 R3
   exact⟨zs4,⟨d1+d2+d3+d4,by omega,zR k0 hk' hm C1 C2 C3 C4⟩,R4⟩
  ·have hdf:t.mr.dead=false:=by cases h:t.mr.dead;rfl;exact absurd h hd
   rw[hdf] at C3
   rw[if_neg hd]
   obtain⟨zs4,⟨d4,hd4,C4⟩,R4,hz4⟩:=(Jw (c:=c) hf).at hz3 R3
   obtain⟨zs5,⟨d5,hd5,C5⟩,R5,hz5⟩:=(gd_cnt (c:=c) (D:=D.settle (D.cursor+1)) hr).at hz4 R4
   obtain⟨zs6,⟨d6,hd6,C6⟩,R6,hz6⟩:=(tintFns.shadow c (D.settle (D.cursor+1)) (D.cursor+1) hr).at hz5 R5
   rw[Gq hf] at C5
   rw[Gr hf] at C6
   by_cases hlt:D.shd (D.cursor+1)<t.mr.refs
   ·rw[if_pos hlt]
    obtain⟨zs7,⟨d7,hd7,C7⟩,R7,hz7⟩:=(tintFns.touch c (D.settle (D.cursor+1)) (D.cursor+1) hr).at hz6 R6
    obtain⟨zs8,⟨d8,hd8,C8⟩,R8,hz8⟩:=(hfin ((D.settle (D.cursor+1)).touch (D.cursor+1)) (sN (D:=D.settle (D.cursor+1)) _).2.2.1).at hz7 R7
    exact⟨zs8,⟨d1+d2+d3+d4+d5+d6+d7+d8,by omega,Fu k0 hk' hm hlt C1 C2 C3 C4 C5 C6 C7 C8⟩,R8⟩
   ·rw[if_neg hlt]
    obtain⟨zs7,⟨d7,hd7,C7⟩,R7,hz7⟩:=(hfin (D.settle (D.cursor+1)) rfl).at hz6 R6
    exact⟨zs7,⟨d1+d2+d3+d4+d5+d6+d7,by omega,Cq k0 hk' hm (by omega) C1 C2 C3 C4 C5 C6 C7⟩,R7⟩
theorem FD(h:¬D.cursor<(D.n:Int)):Does c D 48 [] 42 D (.bool false):=fun zs hz R=>by
 have hN:=R.n
 obtain⟨zs1,⟨d1,hd1,C1⟩,R1,hz1⟩:=(tintFns.at_ c D).at hz R
 exact⟨zs1,⟨d1,by omega,Co (by rw[←hN];omega) C1⟩,R1⟩
theorem ld_flood(S:San D):Does c D 13 [] 96 D.flood (.bool D.floodB):=fun zs hz R=>by
 obtain⟨zs1,⟨d1,hd1,C1⟩,R1,hz1⟩:=(tintFns.phase c D).at hz R
 by_cases hp:D.phase=2
 ·rw[hp] at C1
  by_cases hs:D.scan=0
  ·obtain⟨zs2,⟨d2,hd2,C2⟩,R2,hz2⟩:=(FE (c:=c) hs).at hz1 R1
   cases hr:D.ring with
   |cons b rest=>
    have e:D.floodB=true:=by unfold Wd.floodB;simp[hp,hr]
    obtain⟨zs3,⟨d3,hd3,C3⟩,R3,hz3⟩:=(Ju (c:=c) hr).at hz2 R2
    unfold Wd.flood
    rw[e,if_pos rfl,if_pos hs,hr]
    exact⟨zs3,⟨d1+d2+d3,by omega,vo C1 C2 C3⟩,R3⟩
   |nil=>
    obtain⟨zs3,⟨d3,hd3,C3⟩,R3,hz3⟩:=(Ac (c:=c) hr).at hz2 R2
    by_cases hk:D.cursor<(D.n:Int)
    ·have e:D.floodB=true:=by unfold Wd.floodB;simp[hp,hk]
     obtain⟨zs4,⟨d4,hd4,C4⟩,R4,hz4⟩:=(OW (c:=c) S hk).at hz3 R3
     unfold Wd.flood
     rw[e,if_pos rfl,if_pos hs,hr]
     exact⟨zs4,⟨d1+d2+d3+d4,by omega,qp C1 C2 C3 C4⟩,R4⟩
    ·have e:D.floodB=false:=by unfold Wd.floodB;simp[hs,hr,hk]
     obtain⟨zs4,⟨d4,hd4,C4⟩,R4,hz4⟩:=(FD (c:=c) hk).at hz3 R3
     rw[flood_idle e,e]
     exact⟨zs4,⟨d1+d2+d3+d4,by omega,qp C1 C2 C3 C4⟩,R4⟩
  ·have e:D.floodB=true:=by unfold Wd.floodB;simp[hp,hs]
   obtain⟨zs2,⟨d2,hd2,C2⟩,R2,hz2⟩:=(OX (c:=c) S hs).at hz1 R1
   unfold Wd.flood
   rw[e,if_pos rfl,if_neg hs]
   exact⟨zs2,⟨d1+d2,by omega,zP C1 C2⟩,R2⟩
 ·have e:=LB hp
  rw[flood_idle e,e]
  exact⟨zs1,⟨d1,by omega,xz hp C1⟩,R1⟩
end
def nk:Option Th→Nat
 |none=>2
 |some t=>t.pt.length+2
def jh(F:Int):Option Th→Nat
 |none=>1
 |some t=>((t.pt.length:Int)-F).toNat+1
def whiteT(P:Int)(t:Th):Nat:=if t.mr.color=P then 0 else t.pt.length+2
def iC(D:Wd)(l:List Nat):Nat:=(l.map (fun b:Nat=>nk (D.find ((b:Int)+1)))).sum
def oV(D:Wd):Nat:=sumL (whiteT D.parity) D.ts+iC D D.ring
def pot(D:Wd):Nat:=((D.n:Int)-D.cursor).toNat+oV D+(if D.scan=0 then 0 else jh D.scanF (D.find D.scan))
section
variable {D D':Wd} {t u:Th} {r x:Int} {l:List Nat}
theorem wB(h:∀q,nk (D'.find q)=nk (D.find q)):∀l:List Nat,iC D' l=iC D l:=fun l=>by
 unfold iC
 congr 1
 exact List.map_congr_left (fun b _=>h _)
theorem vQ(r:Int)(f:Mrk→Mrk)(q:Int):nk ((D.mark r f).find q)=nk (D.find q):=by
 rw[find_mark]
 cases D.find q with
 |none=>rfl
 |some t=>
  simp only[Option.map_some]
  split<;>rfl
theorem FV(r:Int)(f:Mrk→Mrk)(F q:Int):jh F ((D.mark r f).find q)=jh F (D.find q):=by
 rw[find_mark]
 cases D.find q with
 |none=>rfl
 |some t=>
  simp only[Option.map_some]
  split<;>rfl
theorem Eo(r q:Int):nk ((D.touch r).find q)=nk (D.find q):=by
 unfold Wd.touch
 split
 ·exact vQ (D:=D) r (fun m=>{m with color:=D.parity}) q
 ·rfl
theorem Ep(r F q:Int):jh F ((D.touch r).find q)=jh F (D.find q):=by
 unfold Wd.touch
 split
 ·exact FV (D:=D) r (fun m=>{m with color:=D.parity}) F q
 ·rfl
theorem IK(S:San D)(r:Int):oV (D.touch r)≤oV D:=by
 cases ht:D.aH r with
 |false=>
  have e:D.touch r=D:=by unfold Wd.touch;rw[ht];rfl
  rw[e]
  exact Nat.le_refl _
 |true=>
  cases hf:D.find r with
  |none=>unfold Wd.aH at ht;rw[hf] at ht;cases ht
  |some t=>
   obtain⟨htl,er⟩:=find_live hf
   have hnb:t.mr.color≠D.parity:=by
    unfold Wd.aH at ht
    rw[hf] at ht
    simp at ht
    exact ht.2
   have e:D.touch r={D.paint r with ring:=if hasB (ints D.ring) (r-1) then D.ring else D.ring++[(r-1).toNat]}:=by unfold Wd.touch;rw[ht];rfl
   have h1:=ky (φ:=whiteT D.parity) (g:=fun t=>{t with mr:={t.mr with color:=D.parity}}) hf (bG hf).2.1
   have h2:whiteT D.parity {t with mr:={t.mr with color:=D.parity}}=0:=by unfold whiteT;rw[if_pos rfl]
   have h3:whiteT D.parity t=t.pt.length+2:=by unfold whiteT;rw[if_neg hnb]
   have h4:iC (D.touch r) (D.touch r).ring≤iC D D.ring+(t.pt.length+2):=by
    rw[wB (Eo r)]
    rw[e]
    show iC D (if hasB (ints D.ring) (r-1) then D.ring else D.ring++[(r-1).toNat])≤_
    split
    ·exact Nat.le_add_right _ _
    ·unfold iC
     rw[List.map_append,List.sum_append]
     have e2:(((r-1).toNat:Nat):Int)+1=r:=by omega
     simp only[List.map_cons,List.map_nil,List.sum_cons,List.sum_nil,e2,hf]
     exact Nat.le_refl _
   have h5:sumL (whiteT (D.touch r).parity) (D.touch r).ts=sumL (whiteT D.parity) (updL r (fun t=>{t with mr:={t.mr with color:=D.parity}}) D.ts):=by rw[e];rfl
   unfold oV
   rw[h5]
   omega
theorem DV(r:Int):oV (D.settle r)=oV D:=by
 unfold oV
 have h1:sumL (whiteT (D.settle r).parity) (D.settle r).ts=sumL (whiteT D.parity) D.ts:=lH r (fun t=>rfl)
 have h2:iC (D.settle r) (D.settle r).ring=iC D D.ring:=wB (vQ r _) D.ring
 rw[h1,h2]
theorem QY(S:San D)(r:Int)(o:Option Th):oV (D.jf r o)≤oV D:=by
 unfold Wd.jf
 split
 ·exact Nat.le_refl _
 ·split
  ·exact Nat.le_refl _
  ·split
   ·exact Nat.le_trans (IK (S.settle r) r) (Nat.le_of_eq (DV r))
   ·exact Nat.le_of_eq (DV r)
theorem FJ(r:Int)(o:Option Th):(D.jf r o).n=D.n∧(D.jf r o).scan=D.scan:=by
 unfold Wd.jf
 split
 ·exact⟨rfl,rfl⟩
 ·split
  ·exact⟨rfl,rfl⟩
  ·split
   ·unfold Wd.touch
    split<;>exact⟨rfl,rfl⟩
   ·exact⟨rfl,rfl⟩
theorem En(r:Int):(D.touch r).n=D.n∧(D.touch r).scan=D.scan∧(D.touch r).cursor=D.cursor:=by
 unfold Wd.touch
 split<;>exact⟨rfl,rfl,rfl⟩
theorem pot_flood(S:San D)(hF:0≤D.scanF)(hb:D.floodB=true):pot D.flood+1≤pot D:=by
 unfold Wd.flood
 rw[hb,if_pos rfl]
 by_cases hs:D.scan=0
 ·rw[if_pos hs]
  cases hr:D.ring with
  |cons b rest=>
   show((D.n:Int)-D.cursor).toNat+(sumL (whiteT D.parity) D.ts+iC D rest)+(if(b:Int)+1=0 then 0 else jh 0 (D.find ((b:Int)+1)))+1≤((D.n:Int)-D.cursor).toNat+(sumL (whiteT D.parity) D.ts+iC D D.ring)+(if D.scan=0 then 0 else jh D.scanF (D.find D.scan))
   rw[if_neg (by omega),if_pos hs,hr]
   have h1:iC D (b::rest)=nk (D.find ((b:Int)+1))+iC D rest:=by unfold iC;simp
   rw[h1]
   cases D.find ((b:Int)+1) with
   |none=>simp only[nk,jh];omega
   |some t=>simp only[nk,jh];omega
  |nil=>
   have hk:D.cursor<(D.n:Int):=by
    unfold Wd.floodB at hb
    rw[hr] at hb
    simp[hs] at hb
    exact hb.2
   have h1:=QY S (D.cursor+1) (D.find (D.cursor+1))
   obtain⟨e1,e2⟩:=FJ (D:=D) (D.cursor+1) (D.find (D.cursor+1))
   show(((D.jf (D.cursor+1) (D.find (D.cursor+1))).n:Int)-(D.cursor+1)).toNat+oV (D.jf (D.cursor+1) (D.find (D.cursor+1)))+(if(D.jf (D.cursor+1) (D.find (D.cursor+1))).scan=0 then 0 else _)+1≤((D.n:Int)-D.cursor).toNat+oV D+(if D.scan=0 then 0 else jh D.scanF (D.find D.scan))
   rw[e1,e2,if_pos hs,if_pos hs]
   omega
 ·rw[if_neg hs]
  have hp:pot D=((D.n:Int)-D.cursor).toNat+oV D+jh D.scanF (D.find D.scan):=by unfold pot;rw[if_neg hs]
  rw[hp]
  unfold Wd.kV
  cases hf:D.find D.scan with
  |none=>
   show((D.n:Int)-D.cursor).toNat+oV D+(if(0:Int)=0 then 0 else _)+1≤_
   rw[if_pos rfl]
   exact Nat.le_refl _
  |some t=>
   simp only
   by_cases hff:D.scanF<(t.pt.length:Int)
   ·rw[if_pos hff]
    have h1:=IK S (nth t.pt D.scanF.toNat)
    obtain⟨e1,e2,e3⟩:=En (D:=D) (nth t.pt D.scanF.toNat)
    show(((D.touch (nth t.pt D.scanF.toNat)).n:Int)-(D.touch (nth t.pt D.scanF.toNat)).cursor).toNat+oV (D.touch (nth t.pt D.scanF.toNat))+(if(D.touch (nth t.pt D.scanF.toNat)).scan=0 then 0 else jh (D.scanF+1) ((D.touch (nth t.pt D.scanF.toNat)).find (D.touch (nth t.pt D.scanF.toNat)).scan))+1≤_
    rw[e1,e2,e3,if_neg hs,Ep,hf]
    simp only[jh]
    omega
   ·rw[if_neg hff]
    show((D.n:Int)-D.cursor).toNat+oV D+(if(0:Int)=0 then 0 else _)+1≤_
    rw[if_pos rfl]
    simp only[jh]
    omega
end
def tallyN:Nat→Wd→Wd
 |0,D=>D
 |n+1,D=>(tallyN n D).tally
def floodN:Nat→Wd→Wd
 |0,D=>D
 |n+1,D=>(floodN n D).flood
section
variable {w wr w':World} {p:Pl} {c:Cf} {k m n:Nat} {D D':Wd} {t u:Th}
theorem RSt.cursF(h:RSt w p c D wr):0≤D.cursor∧0≤D.field∧D.n=c.N∧0≤D.scanF:=by
 obtain⟨zs,m,hG,hR,_⟩:=h
 exact⟨(hR.Fg hG.wz).1.1,(hR.Fg hG.wz).2.1,hR.n,(hR.scans hG.wz).2.1⟩
def rhoT(N:Nat)(D:Wd):Nat:=((N:Int)*100002+100001-(D.cursor*100002+D.field)).toNat
theorem rhoT_lt{N:Nat}(hN:D.n=N)(hc:0≤D.cursor)(hf:0≤D.field)(hfl:D.field≤100000)(hs:∀t,t∈D.live→t.pt.length≤100000)(hb:D.tallyB=true):rhoT N D.tally+1≤rhoT N D∧D.tally.field≤100000:=by
 have hlt:D.cursor<(N:Int):=by
  unfold Wd.tallyB at hb
  rw[hN] at hb
  simp at hb
  exact hb.2
 have key:D.tally.cursor*100002+D.tally.field≥D.cursor*100002+D.field+1∧D.tally.cursor*100002+D.tally.field≤(N:Int)*100002+100000∧D.tally.field≤100000:=by
  unfold Wd.tally
  rw[hb,if_pos rfl]
  unfold Wd.jI
  have e1:(D.move (D.cursor+1) 0).cursor=D.cursor+1∧(D.move (D.cursor+1) 0).field=0:=⟨rfl,rfl⟩
  cases hfd:D.find (D.cursor+1) with
  |none=>
   simp only
   rw[e1.1,e1.2]
   omega
  |some t=>
   have ht:=hs t (find_live hfd).1
   simp only
   split
   ·rw[e1.1,e1.2]
    omega
   ·split
    ·show D.cursor*100002+(D.field+1)≥_∧D.cursor*100002+(D.field+1)≤_∧D.field+1≤100000
     omega
    ·show(D.cursor+1)*100002+0≥_∧(D.cursor+1)*100002+0≤_∧(0:Int)≤100000
     omega
 unfold rhoT
 omega
theorem RSt.Uq(h:RSt w p c D wr)(S:San D)(hN:c.N≤1000):pot D≤1000000000:=by
 have hcu:=h.cursF
 have hsz:=h.sizes
 have htot:=h.total S
 have hri:=(h.sit S).lens.1
 have h1:sumL (whiteT D.parity) D.ts≤100002*sumL qN D.ts:=qc 100002 (fun t ht=>by
  have h2:=hsz t ht
  have h3:1≤qN t:=by unfold qN;split<;>omega
  unfold whiteT
  split<;>omega)
 have h2:∀l:List Nat,iC D l≤100002*l.length:=fun l=>by
  induction l with
  |nil=>exact Nat.le_refl _
  |cons b l ih=>
   have e:iC D (b::l)=nk (D.find ((b:Int)+1))+iC D l:=by unfold iC;simp
   have h3:nk (D.find ((b:Int)+1))≤100002:=by
    cases hf:D.find ((b:Int)+1) with
    |none=>exact(show 2≤100002 by decide)
    |some t=>
     have:=hsz t (find_live hf).1
     show t.pt.length+2≤_
     omega
   rw[e,List.length_cons]
   omega
 have h3:=h2 D.ring
 have h4:(if D.scan=0 then 0 else jh D.scanF (D.find D.scan))≤100001:=by
  split
  ·omega
  ·cases hf:D.find D.scan with
   |none=>exact(show 1≤100001 by decide)
   |some t=>
    have:=hsz t (find_live hf).1
    show((t.pt.length:Int)-D.scanF).toNat+1≤_
    omega
 have h5:((D.n:Int)-D.cursor).toNat≤1000:=by omega
 unfold pot oV
 omega
end
def SL(w:World)(p:Pl)(c:Cf)(D1:Wd)(ws:World)(e:Ending)(w':World):Prop:=
 ∃m n:Nat,e=.returned (.int .i64 (n:Int))∧(∀j,j<m→(tallyN j D1).tallyB=true)∧(tallyN m D1).tallyB=false∧
  (∀j,j<n→(floodN j ((tallyN m D1).begin 2)).floodB=true)∧(floodN n ((tallyN m D1).begin 2)).floodB=false∧
  n+pot (floodN n ((tallyN m D1).begin 2))≤pot ((tallyN m D1).begin 2)∧
  RSt w p c (floodN n ((tallyN m D1).begin 2)) w'∧San (floodN n ((tallyN m D1).begin 2))∧Touch (inG p) ws w'
def RunT(w:World)(p:Pl)(c:Cf)(k:Nat)(D1:Wd)(ws:World)(m:Nat)(wx:World):Prop:=
 ∃i,RSt w p c (tallyN i D1) wx∧(∀j,j<i→(tallyN j D1).tallyB=true)∧PInv c (k+2+i) (tallyN i D1)∧(tallyN i D1).field≤100000∧i+m≤200000000∧rhoT c.N (tallyN i D1)≤m∧Touch (inG p) ws wx
set_option maxHeartbeats 2000000 in
theorem run_any{w ws:World}{p:Pl}{c:Cf}{k:Nat}{D:Wd}(h:RSt w p c D ws)(I:PInv c k D)(hk:k≤1000)(hN:c.N≤1000):
  Calls Tryz.prog 22 #[.pointer (some ⟨p.a,0,none⟩)] ws (SL w p c (D.turn.begin 1) ws):=by
 have I1:PInv c (k+2) (D.turn.begin 1):=I.turn.begin_ 1
 have hf0:(D.turn.begin 1).field≤100000:=show(0:Int)≤100000 by decide
 have HS:=hid h
 have HI1:=hid I1
 have HF0:=hid hf0
 have HK:=hid (And.intro hk hN)
 obtain⟨vt,ht⟩:=tintFns.turn c D
 have HTu:=hid ht
 have HBe:=hid (ld_begin (c:=c) (D:=D.turn) 1 (by decide) (by decide))
 clear h I I1 ht hk hN hf0
 generalize D.turn.begin 1=D1 at*
 obtain⟨μ,hμ⟩:=least_fn (RunT w p c k D1 ws)
 have HM:=hid hμ
 clear hμ
 go_enter Tryz.func22,Tryz.ntmps22
 go_wp2_with fail
 refine(HS.out.does HTu.out).mono ?_
 rintro e w1 ⟨rfl,h1,hT1⟩
 have HS1:=hid h1
 have HT1:=hid hT1
 clear h1 hT1
 go_wp2_with fail
 refine(HS1.out.does HBe.out).mono ?_
 rintro e w2 ⟨rfl,h2,hT2⟩
 have H0:Hid (∃m,RunT w p c k D1 ws m w2):=hid ⟨rhoT c.N D1,0,h2,fun j hj=>by omega,HI1.out,HF0.out,by
  have h3:=RSt.cursF (D:=D1) h2
  have h4:=HK.out.2
  unfold rhoT
  omega,Nat.le_refl _,HT1.out.trans hT2⟩
 clear h2 hT2
 go_wp2_with fail
 generalize hw2:w2=wy at*
 clear hw2
 go_loopw [] (fun wx=>∃m,RunT w p c k D1 ws m wx) (fun wx=>μ wx)
 case atStart=>exact H0.out
 case round=>
  obtain⟨m0,hm0⟩:=hrel
  obtain⟨⟨i,hS,hj,hI,hf,hi,hr,hT⟩,_⟩:=HM.out wr m0 hm0
  clear hm0
  have HSx:=hid hS
  have hcu:=hS.cursF
  have HTy:=hid (ld_tally (c:=c) hI.san (fun q=>by have h1:=hI.bd.shd q;have h2:=HK.out.1;omega))
  have HTx:=hid hT
  cases hb:(tallyN i D1).tallyB with
  |true=>
   rw[hb] at HTy
   obtain⟨hlt,hfl⟩:=rhoT_lt (N:=c.N) hcu.2.2.1 hcu.1 hcu.2.1 hf hS.sizes hb
   have HJ:Hid (∀j,j<i+1→(tallyN j D1).tallyB=true):=hid (fun j h=>by
    by_cases e:j=i
    ·rw[e];exact hb
    ·exact hj j (by omega))
   have HIx:Hid (PInv c (k+2+(i+1)) (tallyN (i+1) D1)):=hid hI.tally
   have HFx:Hid ((tallyN (i+1) D1).field≤100000):=hid hfl
   obtain⟨m,hme⟩:∃m,m+1=μ wr:=⟨μ wr-1,by omega⟩
   have HK2:Hid (i+1+m≤200000000∧rhoT c.N (tallyN (i+1) D1)≤m):=hid ⟨by omega,by have:rhoT c.N (tallyN (i+1) D1)+1≤rhoT c.N (tallyN i D1):=hlt;omega⟩
   have HMe:=hid hme
   clear hS hcu hb hlt hfl hI hf hi hr hT hj hme
   go_wp2_with fail
   refine(HSx.out.does HTy.out).mono ?_
   rintro e w3 ⟨rfl,h3,hT3⟩
   have HE:Hid (RunT w p c k D1 ws m w3):=hid ⟨i+1,h3,HJ.out,HIx.out,HFx.out,HK2.out.1,HK2.out.2,HTx.out.trans hT3⟩
   clear h3 hT3
   go_wp2_with fail
   go_roundw
   case rel=>exact⟨m,HE.out⟩
   case measure=>
    have h1:=(HM.out w3 m HE.out).2
    have h2:=HMe.out
    omega
  |false=>
   rw[hb] at HTy
   have HTy2:=hid (HTy.out.as rfl (tally_idle hb))
   have HBe2:=hid (ld_begin (c:=c) (D:=tallyN i D1) 2 (by decide) (by decide))
   have HS2:Hid (San ((tallyN i D1).begin 2)):=hid (hI.san.same_but rfl rfl rfl rfl (fun b hb=>.inl hb))
   have HJ:=hid hj
   have HB:=hid hb
   clear hS hcu hb hI hf hi hr hT hj HTy
   go_wp2_with fail
   refine(HSx.out.does HTy2.out).mono ?_
   rintro e w3 ⟨rfl,h3,hT3⟩
   have HS3:=hid h3
   have HT3:=hid (HTx.out.trans hT3)
   clear h3 hT3
   go_wp2_with fail
   refine(HS3.out.does HBe2.out).mono ?_
   rintro e w4 ⟨rfl,h4,hT4⟩
   have HS4:=hid h4
   have HT4:=hid (HT3.out.trans hT4)
   have HPb:=hid (RSt.Uq h4 HS2.out HK.out.2)
   clear h4 hT4
   go_wp2_with fail
   generalize hw4:w4=wz at*
   clear hw4
   go_loopw [3] (fun x wx=>∃n:Nat,x=.int .i64 (n:Int)∧RSt w p c (floodN n ((tallyN i D1).begin 2)) wx∧San (floodN n ((tallyN i D1).begin 2))∧(∀j,j<n→(floodN j ((tallyN i D1).begin 2)).floodB=true)∧n+pot (floodN n ((tallyN i D1).begin 2))≤pot ((tallyN i D1).begin 2)∧Touch (inG p) ws wx) (fun x _=>pot ((tallyN i D1).begin 2)+1-(intOf x).toNat)
   case atStart=>exact⟨0,rfl,HS4.out,HS2.out,fun j hj=>by omega,by show 0+pot ((tallyN i D1).begin 2)≤_;omega,HT4.out⟩
   case round=>
    obtain⟨n,rfl,hS,hsn,hj,hpt,hT⟩:=hrel
    have HSx:=hid hS
    have HSn:=hid hsn
    have HJn:=hid hj
    have HPt:=hid hpt
    have HTx:=hid hT
    have HFl:=hid (ld_flood (c:=c) hsn)
    have hpb:=HPb.out
    cases hb:(floodN n ((tallyN i D1).begin 2)).floodB with
    |true=>
     rw[hb] at HFl
     have hlt:pot (floodN (n+1) ((tallyN i D1).begin 2))+1≤pot (floodN n ((tallyN i D1).begin 2)):=pot_flood hsn hS.cursF.2.2.2 hb
     have HPn:Hid (n+1+pot (floodN (n+1) ((tallyN i D1).begin 2))≤pot ((tallyN i D1).begin 2)):=hid (by omega)
     have HSn2:Hid (San (floodN (n+1) ((tallyN i D1).begin 2))):=hid hsn.flood
     have HJn2:Hid (∀j,j<n+1→(floodN j ((tallyN i D1).begin 2)).floodB=true):=hid (fun j h=>by
      by_cases e:j=n
      ·rw[e];exact hb
      ·exact hj j (by omega))
     have hnb:n<1000000000:=by omega
     clear hS hsn hj hpt hT hb hlt hpb
     go_wp2_with fail
     refine(HSx.out.does HFl.out).mono ?_
     rintro e w5 ⟨rfl,h5,hT5⟩
     have HS5:Hid (RSt w p c (floodN (n+1) ((tallyN i D1).begin 2)) w5):=hid h5
     have HT5:=hid (HTx.out.trans hT5)
     clear h5 hT5
     go_wp2_with fail
     go_roundw
     case rel=>exact⟨n+1,by go_num,HS5.out,HSn2.out,HJn2.out,HPn.out,HT5.out⟩
     case measure=>
      have:=HPn.out
      simp[intOf]
      omega
    |false=>
     rw[hb] at HFl
     have HFl2:=hid (HFl.out.as rfl (flood_idle hb))
     have HBf:=hid hb
     clear hS hsn hj hpt hT hb hpb HFl
     go_wp2_with fail
     refine(HSx.out.does HFl2.out).mono ?_
     rintro e w5 ⟨rfl,h5,hT5⟩
     have HS5:=hid h5
     have HT5:=hid (HTx.out.trans hT5)
     clear h5 hT5
     go_wp2_with fail
     go_ret
     exact⟨i,n,rfl,HJ.out,HB.out,HJn.out,HBf.out,HPt.out,HS5.out,HSn.out,HT5.out⟩
theorem Dj:∀(n:Nat) (l:List Int),l.Nodup→(∀x,x∈l→1≤x∧x≤(n:Int))→l.length≤n
 |0,l,_,h=>by
  cases l with
  |nil=>exact Nat.le_refl _
  |cons x l=>
   have:=h x (List.mem_cons_self ..)
   omega
 |n+1,l,hd,h=>by
  have hd2:(l.erase ((n+1:Nat):Int)).Nodup:=hd.erase _
  have ih:=Dj n (l.erase ((n+1:Nat):Int)) hd2 (fun x hx=>by
   have h1:=h x (List.mem_of_mem_erase hx)
   have h2:x≠((n+1:Nat):Int):=fun e=>by
    rw[e] at hx
    exact(List.Nodup.not_mem_erase hd) hx
   omega)
  rw[List.length_erase] at ih
  split at ih<;>omega
section
variable {w0 wr w3:World} {c:Cf} {D:Wd} {fl l:List Int} {q j:Nat} {v v':Value} {x:Int} {hold:Nat→Nat} {p:Pl}
end
def Out(hold:Nat→Nat)(D:Wd):Prop:=∀h:Nat,(∀t,t∈D.live→t.h≠h)→hold h=0
section
variable {D D':Wd} {t u:Th} {hold:Nat→Nat} {l fl:List Int}
end
def hN(hold:Nat→Nat)(i:Nat):Nat:=if i=0 then 0 else hold (i-1)
section
variable {w wr w':World} {p:Pl} {c:Cf} {q k:Nat} {D D':Wd} {hold hold':Nat→Nat} {ph:Int} {t u:Th} {r x y i:Int}
end
section
variable {w wr:World} {p:Pl} {c:Cf} {q k:Nat} {D:Wd} {hold:Nat→Nat} {ph:Int}
end
section
variable {D D':Wd} {t u:Th} {r x:Int} {hold:Nat→Nat} {k:Nat} {c:Cf}
theorem yO{P:Wd→Prop}(S:San D)(h0:P D)(hm:∀D r,San D→P D→P (D.settle r))(ht:∀D r,San D→P D→P (D.touch r))(hn:∀D D',P D→D'.ts=D.ts→(∀b,b∈D'.ring→b∈D.ring)→D'.clean=D.clean→D'.grave=D.grave→D'.pending=D.pending→D'.w=D.w→D'.n=D.n→P D'):P D.flood:=by
 unfold Wd.flood
 split
 ·split
  ·split
   ·rename_i b rest hr
    exact hn D _ h0 rfl (fun c hc=>by rw[hr];exact List.mem_cons_of_mem _ hc) rfl rfl rfl rfl rfl
   ·refine hn (D.jf (D.cursor+1) (D.find (D.cursor+1))) D.pX ?_ rfl (fun _ h=>h) rfl rfl rfl rfl rfl
    unfold Wd.jf
    split
    ·exact h0
    ·split
     ·exact h0
     ·split
      ·exact ht _ _ (S.settle _) (hm _ _ S h0)
      ·exact hm _ _ S h0
  ·unfold Wd.kV
   split
   ·exact hn D _ h0 rfl (fun _ h=>h) rfl rfl rfl rfl rfl
   ·split
    ·exact hn _ _ (ht _ _ S h0) rfl (fun _ h=>h) rfl rfl rfl rfl rfl
    ·exact hn D _ h0 rfl (fun _ h=>h) rfl rfl rfl rfl rfl
 ·exact h0
theorem LA(S:San D):D.flood.ts.map Th.h=D.ts.map Th.h:=
 yO (P:=fun E=>E.ts.map Th.h=D.ts.map Th.h) S rfl (fun E r _ h=>(mark_hd (D:=E) r (fun m=>{m with shade:=E.parity,shadow:=E.shd r})).trans h) (fun E r _ h=>(wR r).trans h) (fun E E' h e _ _ _ _ _ _=>by rw[e];exact h)
theorem BDf.flood(h:BDf k D)(S:San D):BDf k D.flood:=
 yO (P:=BDf k) S h (fun E r _ h=>h.mark r (fun m=>{m with shade:=E.parity,shadow:=E.shd r}) (Nat.le_refl _) (fun t ht=>⟨(h r t ht).1,h.shd r⟩)) (fun E r _ h=>h.touch r) (fun E E' h e _ _ _ _ _ _=>h.ts e)
theorem PInv.flood(I:PInv c k D):PInv c k D.flood:=⟨I.san.flood,I.bd.flood I.san,by rw[LA I.san];exact I.hd⟩
end
def UE(D:Wd):Prop:=∀t,t∈D.ts→t.ended=false∧(t.mr.dead=true→t.mr.leaves=(t.lv.length:Int))
structure Fin2 (L:List Int) (D:Wd):Prop where
 san:San D
 nd:(D.ts.map Th.h).Nodup
 refs:D.allR=L
 dy:Dyed D
 fl:UE D
section
variable {L:List Int} {D D':Wd} {t:Th} {w wr:World} {p:Pl} {N k:Nat}
theorem Fin2.len(F:Fin2 L D)(hw:D.w=16):sumL (fun t=>t.pt.length) D.ts≤15*sumL qN D.ts:=qc 15 (fun t ht=>by
 have hm:=(mem_live.1 ht).1
 have hg:=(F.san.ok t ht).rU
 have ho:qN t=1+t.lv.length:=by
  unfold qN
  split
  ·rename_i hd
   rw[(F.fl t hm).2 hd]
   simp
  ·rfl
 rw[hw] at hg
 rw[ho]
 by_cases h:t.pt.length+t.dt.length≤16-8
 ·omega
 ·have:=(hg.big h).2
  omega)
theorem Fin2.find(F:Fin2 L D){j:Nat}(hj:j<L.length):∃t,D.find (nth L j)=some t:=by
 have hr:=F.refs
 subst hr
 have hj2:j<D.ts.length:=by unfold Wd.allR at hj;simpa using hj
 have e:nth D.allR j=(D.ts[j].h:Int)+1:=by
  unfold nth Wd.allR
  rw[List.getD_eq_getElem?_getD]
  simp[hj2]
 have h:=Ia (l:=D.ts) F.nd (List.getElem_mem hj2)
 rw[(F.fl _ (List.getElem_mem hj2)).1] at h
 rw[e]
 exact⟨_,h⟩
end
def Sw(t:Th):Nat × List Int × Bool × Int:=(t.h,t.pt,t.mr.dead,t.mr.refs)
def Pt(D D':Wd):Prop:=∀q,(D'.find q).map Sw=(D.find q).map Sw
structure BK (m:Int→Prop) (D:Wd):Prop where
 col:∀x t,D.find x=some t→t.mr.color=D.parity→m x
 ring:∀b,b∈D.ring→m ((b:Int)+1)
 scan:D.scan≠0→m D.scan
section
variable {D D' D2:Wd} {t u v:Th} {r x y q:Int} {hold:Nat→Nat} {l fl:List Int} {m:Int→Prop} {N:Nat}
theorem Pt.trans(h:Pt D D')(k:Pt D' D2):Pt D D2:=fun q=>(k q).trans (h q)
theorem Pt.ts(h:D'.ts=D.ts):Pt D D':=fun q=>by unfold Wd.find;rw[h]
theorem Pt.mark(D:Wd)(r:Int){f:Mrk→Mrk}(h1:∀m,(f m).dead=m.dead)(h2:∀m,(f m).refs=m.refs):Pt D (D.mark r f):=fun q=>by
 rw[find_mark]
 cases D.find q with
 |none=>rfl
 |some t=>
  simp only[Option.map_some]
  split
  ·unfold Sw
   simp only[h1,h2]
  ·rfl
theorem Pt.touch(D:Wd)(r:Int):Pt D (D.touch r):=by
 rcases iG (D:=D) r with h|h
 ·exact Pt.ts h
 ·exact(Pt.mark D r (f:=fun m=>{m with color:=D.parity}) (fun _=>rfl) (fun _=>rfl)).trans (Pt.ts h)
theorem Pt.some(h:Pt D D')(hf:D.find q=some t):∃t',D'.find q=some t'∧t'.h=t.h∧t'.pt=t.pt∧t'.mr.dead=t.mr.dead∧t'.mr.refs=t.mr.refs:=by
 have h1:=h q
 rw[hf] at h1
 cases hq:D'.find q with
 |none=>rw[hq] at h1;cases h1
 |some t'=>
  rw[hq] at h1
  have h2:Sw t'=Sw t:=Option.some.inj h1
  unfold Sw at h2
  injection h2 with e1 h2
  injection h2 with e2 h2
  injection h2 with e3 e4
  exact⟨t',rfl,e1,e2,e3,e4⟩
theorem at_find(hf:D.find x=some v)(ha:v.at r=true):x=r:=by
 have:=(find_live hf).2
 unfold Th.at at ha
 simp at ha
 omega
theorem BK.touch(B:BK m D)(hr:∀t,D.find r=some t→m r):BK m (D.touch r):=by
 cases ht:D.aH r with
 |false=>rw[show D.touch r=D by unfold Wd.touch;rw[ht];rfl];exact B
 |true=>
  cases hf:D.find r with
  |none=>unfold Wd.aH at ht;rw[hf] at ht;cases ht
  |some t=>
   have hm:=hr t hf
   have er:=(find_live hf).2
   have e:D.touch r={D.paint r with ring:=if hasB (ints D.ring) (r-1) then D.ring else D.ring++[(r-1).toNat]}:=by unfold Wd.touch;rw[ht];rfl
   rw[e]
   refine⟨fun x u hu hc=> ?_,fun b hb=> ?_,B.scan⟩
   ·have hu:(D.mark r (fun m=>{m with color:=D.parity})).find x=some u:=hu
    by_cases hxr:x=r
    ·rw[hxr]
     exact hm
    ·rw[find_mark] at hu
     cases hx:D.find x with
     |none=>rw[hx] at hu;cases hu
     |some v=>
      rw[hx] at hu
      simp only[Option.map_some] at hu
      rw[if_neg (fun ha=>hxr (at_find hx ha))] at hu
      cases hu
      exact B.col x _ hx hc
   ·have hb:b∈(if hasB (ints D.ring) (r-1) then D.ring else D.ring++[(r-1).toNat]):=hb
    split at hb
    ·exact B.ring b hb
    ·rw[List.mem_append,List.mem_singleton] at hb
     rcases hb with hb|rfl
     ·exact B.ring b hb
     ·rw[show(((r-1).toNat:Nat):Int)+1=r by omega]
      exact hm
structure TQ (N:Nat) (hold:Nat→Nat) (D:Wd):Prop where
 ci:∃s h f,CI N s h f D
 fm:FM hold D
 nam:Nam hold D
 out:Out hold D
 col:∀t,t∈D.ts→t.mr.color=0
 par:D.parity=1
 ring:D.ring=[]
 scan:D.scan=0
theorem Md{l:List Th}(hn:(l.map Th.h).Nodup)(h:∀t,t∈l→t.h<N):l.length≤N:=by
 have:=Dj N (l.map (fun t=>(t.h:Int)+1)) (by
  unfold List.Nodup at hn ⊢
  rw[List.pairwise_map] at hn ⊢
  exact hn.imp (fun h e=>h (by omega))) (fun x hx=>by
  obtain⟨t,ht,rfl⟩:=List.mem_map.1 hx
  have:=h t ht
  omega)
 simpa using this
end
section
variable {D D':Wd} {t u:Th} {r x y:Int} {hold:Nat→Nat} {L:List Int} {N k:Nat}
end
section
variable {w wr w':World} {p:Pl} {q lo m k n:Nat} {c:Cf} {D D2 D':Wd} {t u:Th} {r i x y sp sd:Int}
def IX(w:World)(p:Pl)(q lo:Nat)(c:Cf)(D':Wd)(e:Ending)(w':World):Prop:=e=.returned (.bool true)∧TSt w p q lo c D' D' w'
theorem eqself(b:Bool):(b==b)=true:=by cases b<;>rfl
end
section
variable {w wr w':World} {p:Pl} {q lo m k n:Nat} {c:Cf} {D D2 D':Wd} {t u:Th} {r i x y sp sd:Int}
theorem aj.Uk{a:WA}{lab:Nat→Nat}(h:aj wr lo lab a D):∀(i:Nat) (t:Th) (x:TA),D.ts[i]? =some t→a.tas[i]? =some x→0<t.pt.length→∀g,x.pa=some ⟨g,0,none⟩→g<wr.heap.size:=fun i t x ht hx h0 g hg=>((h.h.th i t x ht hx).lpa h0 g 0 hg).2.1
theorem aj.Tt{a:WA}{lab:Nat→Nat}(h:aj wr lo lab a D):¬XW lo wr.heap.size a wr.heap.size:=fun hx=>by
 rcases hx with hx|⟨xx,hm,hx⟩
 ·have:=h.wb.lt;omega
 ·obtain⟨ii,hii⟩:=List.mem_iff_getElem?.1 hm
  have hl:=(List.getElem?_eq_some_iff.1 hii).1
  rw[h.h.len] at hl
  rcases hx with hx|⟨_,hx,_⟩
  ·have:=(h.mb ii _ xx (List.getElem?_eq_getElem hl) hii).1.lt;omega
  ·omega
theorem aj.Ml{a:WA}{lab:Nat→Nat}(h:aj wr lo lab a D){Bd b:Nat}(hx:XW lo Bd a b):lo≤b:=by
 rcases hx with hx|⟨xx,hm,hx⟩
 ·rw[hx];exact h.lq.1
 ·obtain⟨ii,hii⟩:=List.mem_iff_getElem?.1 hm
  have hl:=(List.getElem?_eq_some_iff.1 hii).1
  rw[h.h.len] at hl
  rcases hx with hx|⟨_,_,hx⟩
  ·rw[hx];exact(h.mb ii _ xx (List.getElem?_eq_getElem hl) hii).2.1
  ·exact hx
theorem TSm.next(h:TSm w p q lo c D D2 m wr)(k1:bf w' lo q D')(k3:Touch (fun b=>lo≤b) wr w'):TSm w p q lo c D D' m w':=by
 obtain⟨⟨zs,hG,hR,hp,hB⟩,h5,h6,h7⟩:=h
 exact⟨⟨zs,hG.touch k3 (fun i hi hx=>h6 i hx hi),hR,hp,hB.trans (k3.below (fun i hi=>Nat.le_trans h7 hi) hB.size)⟩,k1,h6,h7⟩
end
section
variable {w wr w':World} {p:Pl} {q lo m k n:Nat} {c:Cf} {D D2 D':Wd} {t u:Th} {r i x y sp sd:Int} {zs:List Int}
theorem Od.does{f:FuncId}{args:List Value}{B:Nat}{v:Value}(h:Od w p c D m wr)(ha:Does c D f args B D' v):
  Calls Tryz.prog f (List.toArray (.pointer (some ⟨p.a,0,none⟩)::args)) wr fun e w'=>e=.returned v∧(∃d,d≤B∧Od w p c D' (m+d) w')∧Touch (inG p) wr w':=by
 obtain⟨zs,hG,hR,hp,hB⟩:=h
 obtain⟨zs',⟨d,hd,H⟩,hR'⟩:=ha zs hG.wz hR
 refine(H p m wr hG).mono ?_
 rintro e w' ⟨rfl,hG',hT⟩
 exact⟨rfl,⟨d,hd,⟨zs',hG',hR',hp,hB.trans (hT.below hp hB.size)⟩⟩,hT⟩
theorem Od.Uu(h:Od w p c D m wr):RSt w p c D wr:=by
 obtain⟨zs,h1,h2,h3,h4⟩:=h
 exact⟨zs,m,h1,h2,h3,h4⟩
def Wd.UA(D:Wd)(x y:Int):Nat:=if D.mkE x y=0 then 1+D.uI x y else 0
set_option maxHeartbeats 2000000 in
theorem Mm(c:Cf)(D:Wd)(x y:Int){wr w:World}{p:Pl}(h:Od w p c D m wr):
  Calls Tryz.prog 31 #[.pointer (some ⟨p.a,0,none⟩),.int .i64 x,.int .i64 y] wr fun e w'=>e=.returned (.tuple #[.int .i64 (D.mkR x y),.int .i64 (D.mkE x y)])∧((∃d,d≤128+2*c.W*D.UA x y∧Od w p c (D.born x y) (m+d) w')∧BornOk D x y c.N)∧Touch (inG p) wr w':=by
 have HM:=hid (JC D x y h)
 clear h
 unfold Wd.UA
 by_cases hE:D.mkE x y=0
 ·have hD:D.born x y=((D.jl x y).lT (D.mkR x y)).more (D.mkR x y):=by unfold Wd.born;rw[if_pos hE]
  have HE:=hid hE
  rw[hE] at HM
  rw[if_pos rfl] at HM
  rw[hE,hD,if_pos rfl]
  clear hE hD
  go_enter Tryz.func31,Tryz.ntmps31
  go_wp2_with fail
  refine HM.out.mono ?_
  rintro e w1 ⟨rfl,⟨d1,hd1,h1⟩,hT⟩
  have HBk:=hid h1.Uu.zN
  have HS1:=hid h1
  have HT1:=hid hT
  have Hd1:=hid hd1
  obtain⟨t,hf,eh,em⟩:=HBk.out.new HE.out
  have h64:In64 (D.mkR x y):=by
   obtain⟨zs,m,hG,hR,_⟩:=h1.Uu
   exact ig hG.may hR hf
  obtain⟨mm,hf2,_,em2⟩:=Ch (D.mkR x y) hf (D.mkR x y)
  have HDy:=hid ((tintFns.lT c (D.jl x y) (D.mkR x y) h64).as (vb (show((D.jl x y).find (D.mkR x y)).isSome=true by rw[hf];rfl)) rfl)
  have HMo:=hid (Ae (c:=c) hf2 (by show mm.refs<_;rw[em2,em];decide))
  clear h1 hT hf hf2 hd1
  go_wp2_with fail
  refine(HS1.out.does HDy.out).mono ?_
  rintro e w2 ⟨rfl,⟨d2,hd2,h2⟩,hT2⟩
  have HS2:=hid h2
  have Hd2:=hid hd2
  have HT2:=hid (HT1.out.trans hT2)
  clear h2 hT2 hd2
  go_wp2_with fail
  refine(HS2.out.does HMo.out).mono ?_
  rintro e w3 ⟨rfl,⟨d3,hd3,h3⟩,hT3⟩
  have HS3:=hid h3
  have Hd3:=hid hd3
  have HT3:=hid (HT2.out.trans hT3)
  clear h3 hT3 hd3
  go_wp2_with fail
  go_ret2
  refine⟨rfl,⟨⟨d1+d2+d3,?_,?_⟩,HBk.out⟩,HT3.out⟩
  ·have:=Hd1.out
   have:=Hd2.out
   have:=Hd3.out
   omega
  ·have:=HS3.out
   rw[show m+d1+d2+d3=m+(d1+d2+d3) by omega] at this
   exact this
 ·have hD:D.born x y=D.jl x y:=by unfold Wd.born Wd.jl;rw[if_neg hE,if_neg hE]
  have hb:(D.mkE x y==0)=false:=aV hE
  have hR0:D.mkR x y=0:=by unfold Wd.mkR;rw[if_neg hE]
  have HE:=hid hE
  rw[if_neg hE] at HM
  rw[hD,if_neg hE]
  rw[hR0] at HM ⊢
  clear hE hD hR0
  generalize hEe:D.mkE x y=E at*
  have HEe:=hid hEe
  clear hEe
  go_enter Tryz.func31,Tryz.ntmps31
  go_wp2_with fail
  refine HM.out.mono ?_
  rintro e w1 ⟨rfl,⟨d1,hd1,h1⟩,hT⟩
  have HBk:=hid h1.Uu.zN
  have HS1:=hid h1
  have HT1:=hid hT
  have Hd1:=hid hd1
  clear h1 hT hd1
  go_wp2_with fail
  go_ret2
  exact⟨rfl,⟨⟨d1,by have:=Hd1.out;omega,HS1.out⟩,HBk.out⟩,HT1.out⟩
end
section
variable {w wr w':World} {p:Pl} {q lo m k n:Nat} {c:Cf} {D D2 D':Wd} {t u:Th} {r i x y sp sd:Int}
theorem bf.Ux{P:Prop}(h:bf wr lo q D)(H:∀lab a,WA.q a=q→aj wr lo lab a D→P):P:=by
 obtain⟨lab,a,e,hw⟩:=h
 exact H lab a e hw
theorem Na(hs:Sit c D)(I:PInv c k D)(hN:c.N≤1000)(hk:k≤7000)(hr:In64 r)(hx:In64 x)(i:Int):
  ∃B D' v,B≤192∧Does c D 32 [.int .i64 r,.int .i64 i,.int .i64 x] B D' (.int .i64 v)∧(∀Bd wz lab a,WA.q a=q→aj wz lo lab a D→(∀(i:Nat) (t:Th) (x:TA),D.ts[i]? =some t→a.tas[i]? =some x→0<t.pt.length→∀g,x.pa=some ⟨g,0,none⟩→g<Bd)→Calls Tryz.prog 69 #[.pointer (some ⟨q,0,none⟩),.int .i64 r,.int .i64 i,.int .i64 x] wz (fo Bd wz lo a D' (.int .i64 v)))∧PInv c (k+1) D':=by
 have B:=hs.wb hN
 have hl:=hs.lens
 cases ha:D.aliveB r with
 |false=>exact⟨_,D,_,by omega,ld_Put_dead hr ha i x,fun Bd wz lab a e hw _=>by subst e;exact EK hw ha i x,I.up⟩
 |true=>
  obtain⟨t,hf,hd⟩:=aliveB_yes ha
  have z:=hs.II (find_live hf).1
  by_cases hi:0≤i∧i<(t.pt.length:Int)
  ·obtain⟨j,rfl⟩:=Int.eq_ofNat_of_zero_le hi.1
   have hj:j<t.pt.length:=by have:=hi.2;omega
   have hsh:=hs.Pp hf hd (k:=j) (by omega)
   by_cases hx0:x=0
   ·subst hx0
    refine⟨_,_,_,by omega,ld_Put I.san hf hd hj (.inl rfl) B.p0 B.p1,fun Bd wz lab a e hw hpb=> ?_,I.put hf hd j 0 _⟩
    subst e
    by_cases hy:0<(D.bB r j 0).cnt (nth t.pt j)
    ·exact NM hw hpb B (by omega) hf hd z hj hsh hy
    ·exact NL hw hpb B (by omega) hf hd z hj hsh hy
   ·cases hxa:D.aliveB x with
    |false=>exact⟨_,D,_,by omega,ld_Put_arg I.san hf hd hj hx0 hx hxa,fun Bd wz lab a e hw _=>by subst e;exact GN hw hf hd z hj hsh hx0 hxa,I.up⟩
    |true=>
     obtain⟨u,hu,hud⟩:=aliveB_yes hxa
     have hub:u.mr.refs<4294967295:=by have:=(I.bd x u hu).1;omega
     refine⟨_,_,_,by omega,ld_Put I.san hf hd hj (.inr ⟨u,hu,hud,hub⟩) B.p0 B.p1,fun Bd wz lab a e hw hpb=> ?_,I.put hf hd j x _⟩
     subst e
     by_cases hy:0<(D.bB r j x).cnt (nth t.pt j)
     ·exact NP hw hpb B (by omega) hf hd z hj hsh hx0 ⟨u,hu,hud,hub⟩ hy
     ·exact NN hw hpb B (by omega) hf hd z hj hsh hx0 ⟨u,hu,hud,hub⟩ hy
  ·exact⟨_,D,_,by omega,ld_Put_wrong hf hd hi x,fun Bd wz lab a e hw _=>by subst e;exact Bo hw hf hd hi x,I.up⟩
theorem FQ{zs zs1:List Int}{d1:Nat}{r:Int}(C1:Run c 147 [.int .i64 r] zs d1 zs1 (.tuple #[.int .i64 0,.bool false])):Run c 89 [.int .i64 r] zs d1 zs1 (.bool false):=fun p m w hG=>by
 have HG:=hid hG
 have HC1:=hid C1
 clear hG C1
 go_enter Tryz.func89,Tryz.ntmps89
 go_wp2_with fail
 refine(HC1.out p _ _ HG.out).mono ?_
 rintro e wm1 ⟨rfl,hG,hT⟩
 have HG1:=hid hG
 have HT1:=hid hT
 clear hG hT
 go_wp2_with fail
 go_ret
 exact⟨rfl,HG1.out,HT1.out⟩
theorem CJ(hf:D.find r=some t)(hd:t.mr.dead=false)(h0:t.mr.refs=0):Does c D 33 [.int .i64 r] 22 D (.bool false):=fun zs hz R=>by
 have hr:=ig hz.may R hf
 obtain⟨zs1,⟨d1,hd1,C1⟩,R1,hz1⟩:=(iw (c:=c) (D:=D) hr).at hz R
 rw[aQ hf,hd] at C1
 obtain⟨htl,e⟩:=find_live hf
 obtain⟨d2,hd2,C2⟩:=qj.down_zero c zs1 D.clean D.bH t.ob hz1 R1.heap (R1.bA htl) (by have e3:nth zs1 (ae c t.ob.h 3)=t.mr.refs:=(R1.own t htl).w3;rw[e3,h0])
 have e':((t.ob.h:Nat):Int)+1=r:=e
 rw[e'] at C2
 exact⟨zs1,⟨d1+d2,by omega,Mr C1 (FQ C2)⟩,R1⟩
theorem Mk(hs:Sit c D)(I:PInv c k D)(hN:c.N≤1000)(hr:In64 r):
  ∃B,B≤96∧Does c D 33 [.int .i64 r] B (D.lu r) (.bool (D.nO r))∧(∀wz,bf wz lo q D→Calls Tryz.prog 70 #[.pointer (some ⟨q,0,none⟩),.int .i64 r] wz (bD wz lo q (D.lu r) (.bool (D.nO r))))∧PInv c (k+1) (D.lu r):=by
 have B:=hs.wb hN
 have HW:∀wz,bf wz lo q D→Calls Tryz.prog 70 #[.pointer (some ⟨q,0,none⟩),.int .i64 r] wz (bD wz lo q (D.lu r) (.bool (D.nO r))):=fun wz h=>h.Ux fun lab a e hw=>by subst e;exact TS hw B r
 cases ha:D.aliveB r with
 |false=>
  have e1:D.nO r=false:=by unfold Wd.nO;rw[ha];rfl
  have e2:D.lu r=D:=by unfold Wd.lu;rw[e1];rfl
  refine⟨14,by omega,?_,HW,I.lu r⟩
  rw[e1,e2]
  exact Jt hr ha
 |true=>
  obtain⟨t,hf,hd⟩:=aliveB_yes ha
  have hc:D.cnt r=t.mr.refs:=by unfold Wd.cnt;rw[hf]
  by_cases h0:t.mr.refs=0
  ·have e1:D.nO r=false:=by unfold Wd.nO;rw[hc];simp[h0]
   have e2:D.lu r=D:=by unfold Wd.lu;rw[e1];rfl
   refine⟨22,by omega,?_,HW,I.lu r⟩
   rw[e1,e2]
   exact CJ hf hd h0
  ·have e1:D.nO r=true:=by unfold Wd.nO;rw[ha,hc];simp[h0]
   have e2:D.lu r=D.less r:=by unfold Wd.lu;rw[e1];rfl
   refine⟨60,by omega,?_,HW,I.lu r⟩
   rw[e1,e2]
   exact ld_Let hf hd h0 B.p0 B.p1
theorem Jq(hs:Sit c D)(I:PInv c k D)(hN:c.N≤1000)(hk:k≤7000)(hr:In64 r):
  ∃B,B≤64∧Does c D 19 [.int .i64 r] B (D.mX r) (.bool (D.aliveB r))∧(∀wz,bf wz lo q D→Calls Tryz.prog 71 #[.pointer (some ⟨q,0,none⟩),.int .i64 r] wz (bD wz lo q (D.mX r) (.bool (D.aliveB r))))∧PInv c (k+1) (D.mX r):=by
 have B:=hs.wb hN
 cases ha:D.aliveB r with
 |false=>
  have e2:D.mX r=D:=by unfold Wd.mX;rw[ha];rfl
  refine⟨14,by omega,?_,fun wz h=>h.Ux fun lab a e hw=> ?_,I.mX r⟩
  ·rw[e2];exact ld_Hold_no hr ha
  ·subst e;rw[e2];exact(Kz hw ha).mono fun e w' h=>h.toW
 |true=>
  obtain⟨t,hf,hd⟩:=aliveB_yes ha
  have e2:D.mX r=D.more r:=by unfold Wd.mX;rw[ha];rfl
  have hb:t.mr.refs<4294967295:=by have:=(I.bd r t hf).1;omega
  refine⟨36,by omega,?_,fun wz h=>h.Ux fun lab a e hw=> ?_,I.mX r⟩
  ·rw[e2];exact ld_Hold hf hd hb
  ·subst e;rw[e2];exact(Sd hw hf hd (B.rf r t hf).1 hb B.rl).mono fun e w' h=>h.toW
theorem PInv.lq(hs:Sit c D)(I:PInv c k D)(hN:c.N≤1000)(hW:c.W≤18)(hk:k≤7000):SH D:=by
 have hl:=hs.lens
 have h1:=I.hd.1
 rw[List.length_map] at h1
 refine⟨⟨by omega,by omega,fun t ht=>by have:=I.hd.2 t.h (List.mem_map.2 ⟨t,ht,rfl⟩);omega⟩,by omega,by omega,I.san,fun t ht=> ?_⟩
 have z:=hs.II ht
 have hf:=z.f
 rw[hs.wd.1] at hf
 have hw:=hs.wd.2.w
 have hm:ay (c.W:Int)≤10*17:=by
  show((c.W:Int)-8)*((c.W:Int)-1)≤_
  exact Int.mul_le_mul (by omega) (by omega) (by omega) (by omega)
 exact⟨z,by omega,by omega⟩
theorem lact_of{w:World}{a:Option Addr}{rs:List (List Fld)}(hr:Recs w a [.int .u8,.int .i64,.int .i64,.int .i64,.int .i64,.int .i64] rs){k:Nat}(hk:k<rs.length):
  ∃(b off:Nat) (kd r i x sp sd:Int),a=some ⟨b,off,none⟩∧b<w.heap.size∧w.cell? ⟨b,off+k*6,none⟩=some (.int .u8 kd)∧w.cell? ⟨b,off+k*6+1,none⟩=some (.int .i64 r)∧w.cell? ⟨b,off+k*6+2,none⟩=some (.int .i64 i)∧w.cell? ⟨b,off+k*6+3,none⟩=some (.int .i64 x)∧w.cell? ⟨b,off+k*6+4,none⟩=some (.int .i64 sp)∧w.cell? ⟨b,off+k*6+5,none⟩=some (.int .i64 sd)∧0≤kd∧In64 r∧In64 x:=by
 obtain⟨h1,b,off,ha,hb,hc⟩:=hr k rs[k] (by simp[hk])
 generalize rs[k]=r at h1 hc
 have hl:r.length=6:=by have:=congrArg List.length h1;simpa using this
 match r,hl with
 |[f0,f1,f2,f3,f4,f5],_=>
  simp at h1
  obtain⟨k0,k1,k2,k3,k4,k5⟩:=h1
  have c0:=hc 0 f0 rfl
  have c1:=hc 1 f1 rfl
  have c2:=hc 2 f2 rfl
  have c3:=hc 3 f3 rfl
  have c4:=hc 4 f4 rfl
  have c5:=hc 5 f5 rfl
  cases f0<;>simp[Fld.kd] at k0
  cases f1<;>simp[Fld.kd] at k1
  cases f2<;>simp[Fld.kd] at k2
  cases f3<;>simp[Fld.kd] at k3
  cases f4<;>simp[Fld.kd] at k4
  cases f5<;>simp[Fld.kd] at k5
  subst k0 k1 k2 k3 k4 k5
  refine⟨b,off,_,_,_,_,_,_,ha,hb,by simpa[Fld.val] using c0.1,by simpa[Fld.val] using c1.1,by simpa[Fld.val] using c2.1,by simpa[Fld.val] using c3.1,by simpa[Fld.val] using c4.1,by simpa[Fld.val] using c5.1,?_,?_,?_⟩
  ·have:=c0.2
   simp[Fld.ok,Lit.wf,IntKind.min,IntKind.max,IntKind.bits,IntKind.signed] at this
   omega
  ·have:=c1.2
   simp[Fld.ok,Lit.wf,IntKind.min,IntKind.max,IntKind.bits,IntKind.signed] at this
   unfold In64
   omega
  ·have:=c3.2
   simp[Fld.ok,Lit.wf,IntKind.min,IntKind.max,IntKind.bits,IntKind.signed] at this
   unfold In64
   omega
end
end Go.Proofs.YtofhdfjkhfkhiaaGreat.Pk
