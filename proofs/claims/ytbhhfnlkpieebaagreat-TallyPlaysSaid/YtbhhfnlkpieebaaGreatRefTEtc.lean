/-
  Texts laid together: RefT, Tally, TallyBeg, TallyAct, TallyLaw, TallyPlF.
-/
import Derived.Test.YtbhhfnlkpieebaaGreatRefSeeEtc
import Derived.Test.YtbhhfnlkpieebaaGreatLinkFnEtc
namespace Go.Proofs.YtbhhfnlkpieebaaGreat.Pk
open Lib (hid)
open Go.RowKit
set_option linter.unusedVariables false
set_option linter.unusedSimpArgs false
set_option maxRecDepth 100000
def Wd.tallyB(D:Wd):Bool:=decide (D.phase=1)&&decide (D.cursor<(D.n:Int))
def Wd.tallyAt(D:Wd):Option Th→Wd
 |none=>D.move (D.cursor+1) 0
 |some t=>if t.mr.count=D.parity then D.move (D.cursor+1) 0
  else if D.field<(t.pt.length:Int) then(D.deepen (nth t.pt D.field.toNat)).move D.cursor (D.field+1)
  else(D.done (D.cursor+1)).move (D.cursor+1) 0
def Wd.tally(D:Wd):Wd:=if D.tallyB then D.tallyAt (D.find (D.cursor+1)) else D
section
variable {w w':World} {lo:Nat} {lab:Nat→Nat} {a:WA} {D D':Wd} {i:Nat} {t t' u:Th} {x:TA}
theorem ah.move(h:ah w lo lab a D)(c f:Int):ah ((w.setCell ⟨a.q,4,none⟩ (.int .i64 c)).setCell ⟨a.q,5,none⟩ (.int .i64 f)) lo lab a (D.move c f):=by
 have k2:=h.dV (D':={D with cursor:=c}) (k:=4) (u:=.int .i64 c) rfl rfl rfl rfl rfl rfl rfl
 exact k2.dV (D':=D.move c f) (k:=5) (u:=.int .i64 f) rfl rfl rfl rfl rfl rfl rfl
theorem Touch.move{q:Nat}(h:Touch (fun b=>lo≤b) w w')(hq:lo≤q)(c f:Int):Touch (fun b=>lo≤b) w ((w'.setCell ⟨q,4,none⟩ (.int .i64 c)).setCell ⟨q,5,none⟩ (.int .i64 f)):=
 (h.setCell (p:=⟨q,4,none⟩) (fun _=>hq) _).setCell (p:=⟨q,5,none⟩) (fun _=>hq) _
theorem wY(h:ah w lo lab a D)(hp:D.phase≠1):Calls Tryz.prog 24 #[.pointer (some ⟨a.q,0,none⟩)] w (cZ w lo a.q D (.bool false)):=by
 have c3:=h.c3
 have pb:(D.phase !=1)=true:=by rw[bne_iff_ne];exact hp
 have H:=hid h
 clear h hp
 go_enter Tryz.func24,Tryz.ntmps24
 go_wp2_with fail
 go_quiet (fail)
 go_wp2_with fail
 go_ret
 exact⟨rfl,(H.out.df ⟨_,rfl⟩).lN rfl,Touch.of_below (bU.new ⟨_,rfl⟩)⟩
theorem CQ(h:ah w lo lab a D)(hp:D.phase=1)(hk:(D.n:Int)≤D.cursor):Calls Tryz.prog 24 #[.pointer (some ⟨a.q,0,none⟩)] w (cZ w lo a.q D (.bool false)):=by
 have c3:=h.c3
 rw[hp] at c3
 have c4:=h.c4
 have c0:=h.c0
 have c1:=h.h.c0
 have H:=hid h
 clear h hp
 go_enter Tryz.func24,Tryz.ntmps24
 go_wp2_with fail
 go_quiet (fail)
 go_wp2_with fail
 go_ret
 exact⟨rfl,(H.out.df ⟨_,rfl⟩).lN rfl,Touch.of_below (bU.new ⟨_,rfl⟩)⟩
set_option maxHeartbeats 1000000 in
theorem zM(h:ah w lo lab a D)(hp:D.phase=1)(hk0:0≤D.cursor)(hk:D.cursor<(D.n:Int))(hkb:D.cursor≤4294967295)(hf:D.find (D.cursor+1)=none):Calls Tryz.prog 24 #[.pointer (some ⟨a.q,0,none⟩)] w (cZ w lo a.q (D.move (D.cursor+1) 0) (.bool true)):=by
 have c3:=h.c3
 rw[hp] at c3
 have c4:=h.c4
 have c0:=h.c0
 have c1:=h.h.c0
 have hw1:IntKind.i64.wrap (D.cursor+1)=D.cursor+1:=IntWalk.i64_in _ (by omega)
 have hkn:¬(D.n:Int)≤D.cursor:=by omega
 have HOf:=hid (fun w' (h':ah w' lo lab a D)=>dZ h' hf)
 have H:=hid h
 clear h hp hk0 hk hkb hf
 go_enter Tryz.func24,Tryz.ntmps24
 go_wp2_with fail
 go_quiet (fail)
 go_wp2_with fail
 generalize hwd:World.drewN _ _=w1 at*
 have H1:Hid (ah w1 lo lab a D):=hid (by first|exact hwd▸H.out.df ⟨_,rfl⟩|(rw[←hwd];exact H.out.df ⟨_,rfl⟩))
 have T1:Hid (Touch (fun b=>lo≤b) w w1):=hid (by rw[←hwd];exact Touch.of_below (bU.new ⟨_,rfl⟩))
 clear hwd c0 c1 c3 c4
 refine(HOf.out _ H1.out).mono ?_
 rintro e w2 ⟨rfl,rfl⟩
 have c0:=H1.out.c0
 have c2:=H1.out.c2
 have c4:=H1.out.c4
 have c5:=H1.out.c5
 have f4:=H1.out.wb.free 4
 have f5:=H1.out.wb.free 5
 go_wp2_with fail
 go_quiet (fail)
 have HQ:=hid (fun m=>(H1.out.df (w':=w1.drewN m) ⟨m,rfl⟩).move (D.cursor+1) 0)
 have HTQ:=hid (fun m=>Touch.move (T1.out.trans (Touch.of_below (bU.new (w:=w1) (w':=w1.drewN m) ⟨m,rfl⟩))) H1.out.lq.1 (D.cursor+1) 0)
 go_wp2_with fail
 go_ret
 exact⟨rfl,(HQ.out _).lN rfl,HTQ.out _⟩
set_option maxHeartbeats 1000000 in
theorem sU(h:ah w lo lab a D)(hp:D.phase=1)(hk0:0≤D.cursor)(hk:D.cursor<(D.n:Int))(hkb:D.cursor≤4294967295)(hf:D.find (D.cursor+1)=some t)(hc:t.mr.count=D.parity):Calls Tryz.prog 24 #[.pointer (some ⟨a.q,0,none⟩)] w (cZ w lo a.q (D.move (D.cursor+1) 0) (.bool true)):=by
 have c3:=h.c3
 rw[hp] at c3
 have c4:=h.c4
 have c0:=h.c0
 have c1:=h.h.c0
 have hw1:IntKind.i64.wrap (D.cursor+1)=D.cursor+1:=IntWalk.i64_in _ (by omega)
 have hkn:¬(D.n:Int)≤D.cursor:=by omega
 obtain⟨i,x,hi,ht,hx⟩:=h.found hf
 have HOf:=hid (fun w' (h':ah w' lo lab a D)=>aG h' hi hx)
 have HFi:=hid (fun w' (h':ah w' lo lab a D)=>aK h' hi hx)
 have HT:=hid ht
 have HX:=hid hx
 have HCo:=hid hc
 have H:=hid h
 clear h hp hk0 hk hkb hf hc hi ht hx
 go_enter Tryz.func24,Tryz.ntmps24
 go_wp2_with fail
 go_quiet (fail)
 go_wp2_with fail
 generalize hwd:World.drewN _ _=w1 at*
 have H1:Hid (ah w1 lo lab a D):=hid (by first|exact hwd▸H.out.df ⟨_,rfl⟩|(rw[←hwd];exact H.out.df ⟨_,rfl⟩))
 have T1:Hid (Touch (fun b=>lo≤b) w w1):=hid (by rw[←hwd];exact Touch.of_below (bU.new ⟨_,rfl⟩))
 clear hwd c0 c1 c3 c4
 refine(HOf.out _ H1.out).mono ?_
 rintro e w2 ⟨rfl,rfl⟩
 have c0:=H1.out.c0
 have c2:=H1.out.c2
 have c4:=H1.out.c4
 have c5:=H1.out.c5
 have f4:=H1.out.wb.free 4
 have f5:=H1.out.wb.free 5
 have m2:=H1.out.m2 HT.out HX.out
 rw[HCo.out] at m2
 go_wp2_with fail
 go_quiet (fail)
 have HQ:=hid (fun m=>(H1.out.df (w':=w1.drewN m) ⟨m,rfl⟩).move (D.cursor+1) 0)
 have HTQ:=hid (fun m=>Touch.move (T1.out.trans (Touch.of_below (bU.new (w:=w1) (w':=w1.drewN m) ⟨m,rfl⟩))) H1.out.lq.1 (D.cursor+1) 0)
 go_wp2_with fail
 go_ret
 exact⟨rfl,(HQ.out _).lN rfl,HTQ.out _⟩
set_option maxHeartbeats 1000000 in
theorem zL(h:ah w lo lab a D)(hp:D.phase=1)(hk0:0≤D.cursor)(hk:D.cursor<(D.n:Int))(hkb:D.cursor≤4294967295)(hf:D.find (D.cursor+1)=some t)(hc:t.mr.count≠D.parity)(hff:¬D.field<(t.pt.length:Int)):Calls Tryz.prog 24 #[.pointer (some ⟨a.q,0,none⟩)] w (cZ w lo a.q ((D.done (D.cursor+1)).move (D.cursor+1) 0) (.bool true)):=by
 have c3:=h.c3
 rw[hp] at c3
 have c4:=h.c4
 have c0:=h.c0
 have c1:=h.h.c0
 have hw1:IntKind.i64.wrap (D.cursor+1)=D.cursor+1:=IntWalk.i64_in _ (by omega)
 have hkn:¬(D.n:Int)≤D.cursor:=by omega
 obtain⟨i,x,hi,ht,hx⟩:=h.found hf
 have HOf:=hid (fun w' (h':ah w' lo lab a D)=>aG h' hi hx)
 have HFi:=hid (fun w' (h':ah w' lo lab a D)=>aK h' hi hx)
 have HT:=hid ht
 have HX:=hid hx
 have hcb:=aT hc
 have hfl:(t.pt.length:Int)≤D.field:=by omega
 have H:=hid h
 clear h hp hk0 hk hkb hf hc hi ht hx hff
 go_enter Tryz.func24,Tryz.ntmps24
 go_wp2_with fail
 go_quiet (fail)
 go_wp2_with fail
 generalize hwd:World.drewN _ _=w1 at*
 have H1:Hid (ah w1 lo lab a D):=hid (by first|exact hwd▸H.out.df ⟨_,rfl⟩|(rw[←hwd];exact H.out.df ⟨_,rfl⟩))
 have T1:Hid (Touch (fun b=>lo≤b) w w1):=hid (by rw[←hwd];exact Touch.of_below (bU.new ⟨_,rfl⟩))
 clear hwd c0 c1 c3 c4
 refine(HOf.out _ H1.out).mono ?_
 rintro e w2 ⟨rfl,rfl⟩
 have c0:=H1.out.c0
 have c2:=H1.out.c2
 have c4:=H1.out.c4
 have c5:=H1.out.c5
 have f4:=H1.out.wb.free 4
 have f5:=H1.out.wb.free 5
 have m2:=H1.out.m2 HT.out HX.out
 go_wp2_with fail
 go_quiet (fail)
 go_wp2_with fail
 generalize hwd:World.drewN _ _=w3 at*
 have H3:Hid (ah w3 lo lab a D):=hid (by first|exact hwd▸H1.out.df ⟨_,rfl⟩|(rw[←hwd];exact H1.out.df ⟨_,rfl⟩))
 have T3:Hid (Touch (fun b=>lo≤b) w w3):=hid (by rw[←hwd];exact T1.out.trans (Touch.of_below (bU.new ⟨_,rfl⟩)))
 clear hwd c0 c2 c4 c5 f4 f5 m2
 refine(HFi.out _ H3.out).mono ?_
 rintro e w4 ⟨rfl,rfl⟩
 have c4:=H3.out.c4
 have c5:=H3.out.c5
 have d2:=(H3.out.h.th i t x HT.out HX.out).c2
 go_wp2_with fail
 go_quiet (fail)
 go_wp2_with fail
 generalize hwd:World.drewN _ _=w5 at*
 have H5:Hid (ah w5 lo lab a D):=hid (by first|exact hwd▸H3.out.df ⟨_,rfl⟩|(rw[←hwd];exact H3.out.df ⟨_,rfl⟩))
 have T5:Hid (Touch (fun b=>lo≤b) w w5):=hid (by rw[←hwd];exact T3.out.trans (Touch.of_below (bU.new ⟨_,rfl⟩)))
 clear hwd c4 c5 d2
 refine(OM H5.out (D.cursor+1)).mono ?_
 rintro e w6 ⟨rfl,⟨lab6,a6,ea6,k6⟩,k7⟩
 have H6:=hid k6
 have EA:=hid ea6
 have T6:=hid (T5.out.trans k7)
 rw[←EA.out]
 clear k6 k7 ea6
 have c4:w6.cell? ⟨a6.q,4,none⟩=some (.int .i64 D.cursor):=H6.out.c4
 have c5:w6.cell? ⟨a6.q,5,none⟩=some (.int .i64 D.field):=H6.out.c5
 have f4:=H6.out.wb.free 4
 have f5:=H6.out.wb.free 5
 have HQ:=hid (H6.out.move (D.cursor+1) 0)
 have HTQ:=hid (Touch.move T6.out H6.out.lq.1 (D.cursor+1) 0)
 go_wp2_with fail
 go_ret
 exact⟨rfl,HQ.out.lN EA.out,HTQ.out⟩
set_option maxHeartbeats 1000000 in
theorem zK(h:ah w lo lab a D)(hp:D.phase=1)(hk0:0≤D.cursor)(hk:D.cursor<(D.n:Int))(hkb:D.cursor≤4294967295)(hf:D.find (D.cursor+1)=some t)(hc:t.mr.count≠D.parity){j:Nat}(hj:D.field=(j:Int))(hff:j<t.pt.length)(hjb:j≤1000000)(hsh:0≤D.shd (nth t.pt j)∧D.shd (nth t.pt j)≤4294967295):Calls Tryz.prog 24 #[.pointer (some ⟨a.q,0,none⟩)] w (cZ w lo a.q ((D.deepen (nth t.pt j)).move D.cursor ((j:Int)+1)) (.bool true)):=by
 have c3:=h.c3
 rw[hp] at c3
 have c4:=h.c4
 have c0:=h.c0
 have c1:=h.h.c0
 have hw1:IntKind.i64.wrap (D.cursor+1)=D.cursor+1:=IntWalk.i64_in _ (by omega)
 have hkn:¬(D.n:Int)≤D.cursor:=by omega
 obtain⟨i,x,hi,ht,hx⟩:=h.found hf
 have HOf:=hid (fun w' (h':ah w' lo lab a D)=>aG h' hi hx)
 have HFi:=hid (fun w' (h':ah w' lo lab a D)=>aK h' hi hx)
 have HT:=hid ht
 have HX:=hid hx
 have hcb:=aT hc
 have hfl:¬(t.pt.length:Int)≤D.field:=by omega
 have HJ:=hid (And.intro hj hff)
 have HSh:=hid hsh
 have hw2:IntKind.i64.wrap ((j:Int)+1)=(j:Int)+1:=IntWalk.i64_in _ (by omega)
 have H:=hid h
 clear h hp hk0 hk hkb hf hc hi ht hx hff hj hsh
 go_enter Tryz.func24,Tryz.ntmps24
 go_wp2_with fail
 go_quiet (fail)
 go_wp2_with fail
 generalize hwd:World.drewN _ _=w1 at*
 have H1:Hid (ah w1 lo lab a D):=hid (by first|exact hwd▸H.out.df ⟨_,rfl⟩|(rw[←hwd];exact H.out.df ⟨_,rfl⟩))
 have T1:Hid (Touch (fun b=>lo≤b) w w1):=hid (by rw[←hwd];exact Touch.of_below (bU.new ⟨_,rfl⟩))
 clear hwd c0 c1 c3 c4
 refine(HOf.out _ H1.out).mono ?_
 rintro e w2 ⟨rfl,rfl⟩
 have c0:=H1.out.c0
 have c2:=H1.out.c2
 have c4:=H1.out.c4
 have c5:=H1.out.c5
 have f4:=H1.out.wb.free 4
 have f5:=H1.out.wb.free 5
 have m2:=H1.out.m2 HT.out HX.out
 go_wp2_with fail
 go_quiet (fail)
 go_wp2_with fail
 generalize hwd:World.drewN _ _=w3 at*
 have H3:Hid (ah w3 lo lab a D):=hid (by first|exact hwd▸H1.out.df ⟨_,rfl⟩|(rw[←hwd];exact H1.out.df ⟨_,rfl⟩))
 have T3:Hid (Touch (fun b=>lo≤b) w w3):=hid (by rw[←hwd];exact T1.out.trans (Touch.of_below (bU.new ⟨_,rfl⟩)))
 clear hwd c0 c2 c4 c5 f4 f5 m2
 refine(HFi.out _ H3.out).mono ?_
 rintro e w4 ⟨rfl,rfl⟩
 have c4:=H3.out.c4
 have c5:=H3.out.c5
 have d2:=(H3.out.h.th i t x HT.out HX.out).c2
 go_wp2_with fail
 go_quiet (fail)
 go_wp2_with fail
 generalize hwd:World.drewN _ _=w5 at*
 have H5:Hid (ah w5 lo lab a D):=hid (by first|exact hwd▸H3.out.df ⟨_,rfl⟩|(rw[←hwd];exact H3.out.df ⟨_,rfl⟩))
 have T5:Hid (Touch (fun b=>lo≤b) w w5):=hid (by rw[←hwd];exact T3.out.trans (Touch.of_below (bU.new ⟨_,rfl⟩)))
 clear hwd c4 c5 d2
 obtain⟨g,hpa,hg,gc,gf,glo,_⟩:=H5.out.ko HT.out HX.out HJ.out.2
 have d2:=(H5.out.h.th i t x HT.out HX.out).c2
 rw[hpa] at d2
 have c5:=H5.out.c5
 rw[HJ.out.1] at c5
 have hj2:=HJ.out.2
 clear hpa
 have HWd:=hid H5.out.drew
 go_region_with (first|(go_at_call 78;refine(KO HWd.out (nth t.pt j) (by have:=HSh.out;omega) (by have:=HSh.out;omega)).mono ?_;rintro e w6 ⟨rfl,⟨lab6,a6,ea6,k6⟩,k7⟩;have H6:=hid k6;have EA:=hid ea6;have T6:Hid (Touch (fun b=>lo≤b) w w6):=hid (T5.out.trans k7.mf);clear k6 k7 ea6))
 all_goals
  rw[←EA.out]
  have c5:w6.cell? ⟨a6.q,5,none⟩=some (.int .i64 (j:Int)):=by have:=H6.out.c5;rw[show((D.deepen (nth t.pt j)).field)=(j:Int) from HJ.out.1] at this;exact this
  have f5:=H6.out.wb.free 5
  have HQ:Hid (ah (w6.setCell ⟨a6.q,5,none⟩ (.int .i64 ((j:Int)+1))) lo lab6 a6 ((D.deepen (nth t.pt j)).move D.cursor ((j:Int)+1))):=hid (H6.out.dV (D':=(D.deepen (nth t.pt j)).move D.cursor ((j:Int)+1)) (k:=5) (u:=.int .i64 ((j:Int)+1)) rfl rfl rfl rfl rfl rfl rfl)
  have HTQ:=hid (T6.out.setCell (p:=⟨a6.q,5,none⟩) (fun _=>H6.out.lq.1) (.int .i64 ((j:Int)+1)))
  go_wp2_with fail
  go_ret
  exact⟨rfl,HQ.out.lN EA.out,HTQ.out⟩
theorem MW(hw:ah w lo lab a D)(B:WB D)(hk0:0≤D.cursor)(hf0:0≤D.field)(hkb:D.cursor≤4294967295)(hl:∀t,t∈D.live→t.pt.length≤1000000):
  Calls Tryz.prog 24 #[.pointer (some ⟨a.q,0,none⟩)] w (cZ w lo a.q D.tally (.bool D.tallyB)):=by
 by_cases hp:D.phase=1
 ·by_cases hk:D.cursor<(D.n:Int)
  ·have e:D.tallyB=true:=by unfold Wd.tallyB;simp[hp,hk]
   unfold Wd.tally
   rw[e,if_pos rfl]
   cases hf:D.find (D.cursor+1) with
   |none=>exact zM hw hp hk0 hk hkb hf
   |some t=>
    unfold Wd.tallyAt
    by_cases hc:t.mr.count=D.parity
    ·simp only[hc,if_true];exact sU hw hp hk0 hk hkb hf hc
    ·by_cases hff:D.field<(t.pt.length:Int)
     ·obtain⟨j,hj⟩:=Int.eq_ofNat_of_zero_le hf0
      have hjl:j<t.pt.length:=by omega
      have:=hl t (find_live hf).1
      have:=zK hw hp hk0 hk hkb hf hc hj hjl (by omega) (B.shd _)
      simp only[hc,if_false,hff,if_true]
      rw[hj]
      simpa using this
     ·simp only[hc,if_false,hff];exact zL hw hp hk0 hk hkb hf hc hff
  ·have e:D.tallyB=false:=by unfold Wd.tallyB;simp[hk]
   unfold Wd.tally
   rw[e,if_neg (by decide)]
   exact CQ hw hp (by omega)
 ·have e:D.tallyB=false:=by unfold Wd.tallyB;simp[hp]
  unfold Wd.tally
  rw[e,if_neg (by decide)]
  exact wY hw hp
end
section
variable {c:Cf} {zs:List Int} {D:Wd} {t:Th} {r:Int} {k:Nat}
theorem Lv(S:San D)(hz:Wz c zs)(R:ak c zs D)(hf:D.find r=some t){i:Nat}(hi:i<t.pt.length):
  In64 (nth t.pt i)∧∃e:Int,gG c 94 [.int .i64 r,.int .i64 (i:Int)] zs 12 zs (.tuple #[.int .i64 (nth t.pt i),.int .i64 e]):=by
 have hr:=gJ hz.may R hf
 obtain⟨htl,_⟩:=find_live hf
 have hk:=S.ok t htl
 cases ha:aF c t.ob i with
 |some a=>
  obtain⟨h1,b0,b1⟩:=tJ hz R hr hf hi ha
  exact⟨by constructor<;>omega,0,h1⟩
 |none=>
  have h0:nth t.pt i=0:=by
   cases hd:t.mr.dead with
   |true=>
    have d:=hk.dead hd
    by_cases hl:(i:Int)<t.mr.left
    ·obtain⟨_,a,h⟩:=d.field hz.may R.w.symm hk.geo hl
     rw[ha] at h
     cases h
    ·exact d.zero i (by omega)
   |false=>
    obtain⟨a,h⟩:=(hk.alive hd).field hz.may R.w.symm hk.geo hi
    rw[ha] at h
    cases h
  have hob:=fB R r
  rw[hf] at hob
  have e1:oI c zs D.obs r (i:Int)=nth t.pt i:=by
   unfold oI
   rw[hob]
   show(if iW (i:Int) t.ob.np then fldV c zs t.ob (i:Int).toNat else 0)=_
   rw[if_pos (ig (show i<t.ob.np from hi)),Int.toNat_natCast]
   unfold fldV
   rw[ha,h0]
  have h:=ky.ptr c zs D.clean D.obs r (i:Int) hz R.heap hr
  rw[e1] at h
  exact⟨by rw[h0];constructor<;>omega,_,h⟩
theorem yM(S:San D)(hf:D.find r=some t){f:Int}(hn:¬f<(t.pt.length:Int)):Does c D 91 [.int .i64 r,.int .i64 f] 12 D (.bool false):=fun zs hz R=>by
 have hob:=fB R r
 rw[hf] at hob
 obtain⟨d1,hd1,C1⟩:=ky.iL c zs D.clean D.obs r t.ob hz R.heap hob
 exact⟨zs,⟨d1,hd1,zG (n:=(t.ob.np:Int)) hn C1⟩,R⟩
theorem Gn(S:San D)(hf:D.find r=some t){j:Nat}(hj:j<t.pt.length)(hb:D.shd (nth t.pt j)<4294967295):Does c D 91 [.int .i64 r,.int .i64 (j:Int)] 33 (D.deepen (nth t.pt j)) (.bool true):=fun zs hz R=>by
 have hob:=fB R r
 rw[hf] at hob
 obtain⟨d1,hd1,C1⟩:=ky.iL c zs D.clean D.obs r t.ob hz R.heap hob
 obtain⟨h64,e,d2,hd2,C2⟩:=Lv S hz R hf hj
 obtain⟨zs3,⟨d3,hd3,C3⟩,R3,hz3⟩:=(tintFns.deepen c D (nth t.pt j) h64 hb).at hz R
 have hn:(j:Int)<(t.ob.np:Int):=by show(j:Int)<(t.pt.length:Int);omega
 exact⟨zs3,⟨d1+d2+d3,by omega,Ia hn C1 C2 C3⟩,R3⟩
theorem Gy{x y:Int}(h0:0≤x)(h1:x≤4294967295)(h2:0≤y)(h3:y≤4294967295):D.xL x y=D.move x y:=by
 unfold Wd.xL JJ
 rw[if_pos (by simp[h0,h1,h2,h3])]
theorem Me{x y:Int}(h0:0≤x)(h1:x≤4294967295)(h2:0≤y)(h3:y≤4294967295):JJ x y=true:=by
 unfold JJ
 simp[h0,h1,h2,h3]
theorem tF{x y:Int}(h0:0≤x)(h1:x≤4294967295)(h2:0≤y)(h3:y≤4294967295):Does c D 57 [.int .i64 x,.int .i64 y] 2 (D.move x y) (.bool true):=by
 have h:=tintFns.move c D x y
 rw[Gy h0 h1 h2 h3,Me h0 h1 h2 h3] at h
 exact h
theorem ak.curs(R:ak c zs D)(hz:Wz c zs):(0≤D.cursor∧D.cursor≤4294967295)∧0≤D.field∧D.field≤4294967295:=by
 have h1:=R.reg 12 (by omega) (by omega)
 have h2:=R.reg 13 (by omega) (by omega)
 have e1:D.reg 12=D.cursor:=rfl
 have e2:D.reg 13=D.field:=rfl
 rw[e1] at h1
 rw[e2] at h2
 have b1:=hz.wf 12
 have b2:=hz.wf 13
 rw[←h1,←h2]
 exact⟨b1,b2⟩
theorem ld_tally(S:San D)(hb:∀q,D.shd q<4294967295):Does c D 23 [] 96 D.tally (.bool D.tallyB):=fun zs hz R=>by
 have hm:=hz.may
 have hmn:=hm.n
 have hN:=R.n
 obtain⟨⟨k0,k1⟩,f0,f1⟩:=R.curs hz
 obtain⟨zs1,⟨d1,hd1,C1⟩,R1,hz1⟩:=(tintFns.at_ c D).at hz R
 obtain⟨zs2,⟨d2,hd2,C2⟩,R2,hz2⟩:=(tintFns.phase c D).at hz1 R1
 by_cases hp:D.phase=1
 ·rw[hp] at C2
  by_cases hk:D.cursor<(D.n:Int)
  ·have e:D.tallyB=true:=by unfold Wd.tallyB;simp[hp,hk]
   have hk':D.cursor<(c.N:Int):=by rw[←hN];exact hk
   have hr:In64 (D.cursor+1):=by constructor<;>omega
   unfold Wd.tally
   rw[e,if_pos rfl]
   obtain⟨zs3,⟨d3,hd3,C3⟩,R3,hz3⟩:=(gd_is (c:=c) (D:=D) hr).at hz2 R2
   cases hf:D.find (D.cursor+1) with
   |none=>
    rw[hf] at C3
    obtain⟨zs4,⟨d4,hd4,C4⟩,R4,hz4⟩:=(tF (c:=c) (D:=D) (x:=D.cursor+1) (y:=0) (by omega) (by omega) (by omega) (by omega)).at hz3 R3
    exact⟨zs4,⟨d1+d2+d3+d4,by omega,zF k0 hk' hm C1 C2 C3 C4⟩,R4⟩
   |some t=>
    rw[hf] at C3
    obtain⟨zs4,⟨d4,hd4,C4⟩,R4,hz4⟩:=(tintFns.counted c D (D.cursor+1) D.field hr).at hz3 R3
    have hc:D.counted (D.cursor+1) D.field=decide (t.mr.count=D.parity):=by
     unfold Wd.counted
     rw[hf]
     simp[f0]
    rw[hc] at C4
    unfold Wd.tallyAt
    by_cases hct:t.mr.count=D.parity
    ·rw[show decide (t.mr.count=D.parity)=true from decide_eq_true hct] at C4
     obtain⟨zs5,⟨d5,hd5,C5⟩,R5,hz5⟩:=(tF (c:=c) (D:=D) (x:=D.cursor+1) (y:=0) (by omega) (by omega) (by omega) (by omega)).at hz4 R4
     simp only[hct,if_true]
     exact⟨zs5,⟨d1+d2+d3+d4+d5,by omega,sS k0 hk' hm C1 C2 C3 C4 C5⟩,R5⟩
    ·rw[show decide (t.mr.count=D.parity)=false from decide_eq_false hct] at C4
     simp only[hct,if_false]
     by_cases hff:D.field<(t.pt.length:Int)
     ·obtain⟨j,hj⟩:=Int.eq_ofNat_of_zero_le f0
      have hjl:j<t.pt.length:=by omega
      have hsz:=(R4.Lg hm S (find_live hf).1).small
      obtain⟨zs5,⟨d5,hd5,C5⟩,R5,hz5⟩:=(Gn (c:=c) S hf hjl (hb _)).at hz4 R4
      obtain⟨zs6,⟨d6,hd6,C6⟩,R6,hz6⟩:=(tF (c:=c) (D:=D.deepen (nth t.pt j)) (x:=D.cursor) (y:=(j:Int)+1) (by omega) (by omega) (by omega) (by omega)).at hz5 R5
      simp only[hff,if_true]
      rw[hj] at C1 C4 ⊢
      rw[Int.toNat_natCast]
      exact⟨zs6,⟨d1+d2+d3+d4+d5+d6,by omega,zC (f:=(j:Int)) (by omega) (by omega) k0 hk' hm C1 C2 C3 C4 C5 C6⟩,R6⟩
     ·obtain⟨zs5,⟨d5,hd5,C5⟩,R5,hz5⟩:=(yM (c:=c) S hf hff).at hz4 R4
      obtain⟨zs6,⟨d6,hd6,C6⟩,R6,hz6⟩:=(tintFns.done c D (D.cursor+1) hr).at hz5 R5
      obtain⟨zs7,⟨d7,hd7,C7⟩,R7,hz7⟩:=(tF (c:=c) (D:=D.done (D.cursor+1)) (x:=D.cursor+1) (y:=0) (by omega) (by omega) (by omega) (by omega)).at hz6 R6
      simp only[hff,if_false]
      exact⟨zs7,⟨d1+d2+d3+d4+d5+d6+d7,by omega,zD k0 hk' hm C1 C2 C3 C4 C5 C6 C7⟩,R7⟩
  ·have e:D.tallyB=false:=by unfold Wd.tallyB;simp[hk]
   unfold Wd.tally
   rw[e,if_neg (by decide)]
   exact⟨zs2,⟨d1+d2,by omega,Cz (by rw[←hN];omega) C1 C2⟩,R2⟩
 ·have e:D.tallyB=false:=by unfold Wd.tallyB;simp[hp]
  unfold Wd.tally
  rw[e,if_neg (by decide)]
  exact⟨zs2,⟨d1+d2,by omega,wX hp C1 C2⟩,R2⟩
theorem San.move(S:San D)(x y:Int):San (D.move x y):=S.same_but rfl rfl rfl rfl (fun b hb=>.inl hb)
theorem San.deepen(S:San D)(x:Int):San (D.deepen x):=S.mark x (fun _=>rfl) (fun _=>rfl) (fun _=>rfl)
theorem San.done(S:San D)(x:Int):San (D.done x):=S.mark x (fun _=>rfl) (fun _=>rfl) (fun _=>rfl)
theorem San.tally(S:San D):San D.tally:=by
 unfold Wd.tally
 split
 ·unfold Wd.tallyAt
  split
  ·exact S.move _ _
  ·split
   ·exact S.move _ _
   ·split
    ·exact(S.deepen _).move _ _
    ·exact(S.done _).move _ _
 ·exact S
theorem fe.shd(h:fe k D)(q:Int):D.shd q≤(k:Int):=by
 unfold Wd.shd
 split
 ·omega
 ·rename_i t hf
  have:=h q t hf
  split<;>omega
theorem fe.deepen(h:fe k D)(x:Int):fe (k+1) (D.deepen x):=by
 have hs:=h.shd x
 exact h.mark x _ (Nat.le_succ k) (fun t ht=>by have:=h x t ht;show t.mr.refs≤_∧D.shd x+1≤_;omega)
theorem fe.done(h:fe k D)(x:Int):fe k (D.done x):=h.keep x _ (fun _=>Int.le_refl _) (fun _=>Int.le_refl _)
theorem fe.move(h:fe k D)(x y:Int):fe k (D.move x y):=h.ts rfl
theorem fe.tally(h:fe k D):fe (k+1) D.tally:=by
 have h':=h.mono (Nat.le_succ k)
 unfold Wd.tally
 split
 ·unfold Wd.tallyAt
  split
  ·exact h'.move _ _
  ·split
   ·exact h'.move _ _
   ·split
    ·exact(h.deepen _).move _ _
    ·exact(h'.done _).move _ _
 ·exact h'
theorem Ky:D.tally.ts.map Th.h=D.ts.map Th.h:=by
 unfold Wd.tally
 split
 ·unfold Wd.tallyAt
  split
  ·rfl
  ·split
   ·rfl
   ·split
    ·show(D.deepen _).ts.map Th.h=_
     unfold Wd.deepen
     exact mark_hd _ _
    ·show(D.done _).ts.map Th.h=_
     unfold Wd.done
     exact mark_hd _ _
 ·rfl
theorem PInv.tally(I:PInv c k D):PInv c (k+1) D.tally:=I.to I.san.tally I.bd.tally Ky
end
section
variable {w wr w':World} {p:Pl} {q lo m k n:Nat} {c:Cf} {D D2 D':Wd} {t u:Th} {r i x y sp sd:Int}
theorem ld_begin(ph:Int)(h0:0≤ph)(h3:ph≤3):Does c D 28 [.int .i64 ph] 5 (D.begin ph) (.bool true):=by
 have h:=tintFns.begin_ c D ph
 have e:phB ph=true:=decide_eq_true ⟨h0,h3⟩
 unfold Wd.mW at h
 rw[e,if_pos rfl] at h
 exact h
theorem PInv.begin_(I:PInv c k D)(ph:Int):PInv c (k+1) (D.begin ph):=I.to (I.san.same_but rfl rfl rfl rfl (fun b hb=>.inl hb)) ((I.bd.mono (Nat.le_succ k)).ts rfl) rfl
theorem PInv.ldTally(I:PInv c k D)(hk:k≤1000):Does c D 23 [] 96 D.tally (.bool D.tallyB):=ld_tally I.san (fun q=>by have:=I.bd.shd q;omega)
def Qp:Wd:=(Wd.new 1 16).born 1 0
def PZ:Wd:=Qp.put 1 0 1 0
def Qq:Wd:=PZ.turn
def Qr:Wd:=Qq.begin 1
def Qs:Wd:=Qr.tally
def OH:Wd:=Qs.tally
theorem vQ:Qp.find 1=some ⟨0,[],[0],[],false,⟨1,0,0,0,0,false,0,0⟩⟩:=by rfl
theorem tally_idle(h:D.tallyB=false):D.tally=D:=by unfold Wd.tally;rw[h];rfl
set_option maxHeartbeats 2000000 in
theorem begun16_any(w:World):Calls Tryz.prog 19 #[] w fun e w'=>e=.returned (.bool true)∧Below w.heap.size w w':=by
 go_enter Tryz.func19,Tryz.ntmps19
 go_wp2_with fail
 refine(DN poolFns 1 _ (by decide) (by decide)).mono ?_
 rintro e w0 ⟨p,q,lo,rfl,h,_,_,_,_⟩
 have HB:=hid (ls_Born (cfR 1) (Wd.new 1 16) 1 0 h)
 rw[show(Wd.new 1 16).mkR 1 0=1 by decide,show(Wd.new 1 16).mkE 1 0=0 by decide,show(Wd.new 1 16).born 1 0=Qp from rfl] at HB
 clear h
 go_wp2_with fail
 refine HB.out.mono ?_
 rintro e w1 ⟨rfl,h,_,hOk⟩
 have I1:PInv (cfR 1) 1 Qp:=(PInv.new (cfR 1) (v:=16) (by decide)).born hOk
 have I2:PInv (cfR 1) 2 PZ:=I1.put vQ rfl 0 1 0
 have I3:PInv (cfR 1) 3 Qq:=I2.turn
 have I4:PInv (cfR 1) 4 Qr:=I3.begin_ 1
 have I5:PInv (cfR 1) 5 Qs:=I4.tally
 have I6:PInv (cfR 1) 6 OH:=I5.tally
 have H1:=hid h
 have HP:=hid (ld_Put (c:=cfR 1) (x:=1) (i:=0) I1.san vQ rfl (by decide) (.inr ⟨_,vQ,rfl,by decide⟩) (by decide) (by decide))
 have HT2:=hid ((I2.ldTally (by omega)).as (vb (show PZ.tallyB=false by decide)) (tally_idle (by decide)))
 obtain⟨vt,ht⟩:=tintFns.turn (cfR 1) PZ
 have HTu:=hid ht
 have HBe:=hid (ld_begin (c:=cfR 1) (D:=Qq) 1 (by decide) (by decide))
 have HT4:=hid ((I4.ldTally (by omega)).as (vb (show Qr.tallyB=true by decide)) rfl)
 have HT5:=hid ((I5.ldTally (by omega)).as (vb (show Qs.tallyB=true by decide)) rfl)
 have HT6:=hid ((I6.ldTally (by omega)).as (vb (show OH.tallyB=false by decide)) (tally_idle (by decide)))
 have HSh:=hid ((tintFns.shadow (cfR 1) OH 1 (in64 1)).as (vi (show OH.shd 1=1 by decide)) rfl)
 have HCo:=hid ((tintFns.counted (cfR 1) OH 1 0 (in64 1)).as (vb (show OH.counted 1 0=true by decide)) rfl)
 clear h hOk I1 I2 I3 I4 I5 I6 ht
 go_wp2_with fail
 refine(H1.out.does HP.out).mono ?_
 rintro e w2 ⟨rfl,h,_⟩
 have H2:Hid (RSt w p (cfR 1) PZ w2):=hid h
 clear h
 go_wp2_with fail
 refine(H2.out.does HT2.out).mono ?_
 rintro e w3 ⟨rfl,h,_⟩
 have H3:=hid h
 clear h
 go_wp2_with fail
 refine(H3.out.does HTu.out).mono ?_
 rintro e w4 ⟨rfl,h,_⟩
 have H4:Hid (RSt w p (cfR 1) Qq w4):=hid h
 clear h
 go_wp2_with fail
 refine(H4.out.does HBe.out).mono ?_
 rintro e w5 ⟨rfl,h,_⟩
 have H5:Hid (RSt w p (cfR 1) Qr w5):=hid h
 clear h
 go_wp2_with fail
 refine(H5.out.does HT4.out).mono ?_
 rintro e w6 ⟨rfl,h,_⟩
 have H6:Hid (RSt w p (cfR 1) Qs w6):=hid h
 clear h
 go_wp2_with fail
 refine(H6.out.does HT5.out).mono ?_
 rintro e w7 ⟨rfl,h,_⟩
 have H7:Hid (RSt w p (cfR 1) OH w7):=hid h
 clear h
 go_wp2_with fail
 refine(H7.out.does HT6.out).mono ?_
 rintro e w8 ⟨rfl,h,_⟩
 have H8:=hid h
 clear h
 go_wp2_with fail
 refine(H8.out.does HSh.out).mono ?_
 rintro e w9 ⟨rfl,h,_⟩
 have H9:=hid h
 clear h
 go_wp2_with fail
 refine(H9.out.does HCo.out).mono ?_
 rintro e w10 ⟨rfl,h,_⟩
 have H10:=hid h
 clear h
 go_wp2_with fail
 go_ret
 exact⟨rfl,H10.out.below⟩
end
section
variable {w wr w':World} {p:Pl} {q lo m k n:Nat} {c:Cf} {D D2 D':Wd} {t u:Th} {r i x y sp sd:Int}
set_option maxHeartbeats 2000000 in
theorem PX(h:kX w p q lo c D D m wr)(hP:Sit c D)(hN:c.N≤1000)(r i x sp sd:Int):
  Calls Tryz.prog 22 #[.pointer (some ⟨p.a,0,none⟩),.pointer (some ⟨q,0,none⟩),.agg #[.int .u8 4,.int .i64 r,.int .i64 i,.int .i64 x,.int .i64 sp,.int .i64 sd]] wr (FP w p q lo c D.step):=by
 have HBk:=hid (Blk.new wr #[.int .u8 4,.int .i64 r,.int .i64 i,.int .i64 x,.int .i64 sp,.int .i64 sd] 33)
 have HNo:=hid h.box
 have HT0:=hid (h.later (below_new wr (.cells #[.int .u8 4,.int .i64 r,.int .i64 i,.int .i64 x,.int .i64 sp,.int .i64 sd] 33)))
 have HWh:=hid (fun wz (hz:kY w p q lo c D D wz)=>hz.world (hz.2.1.stepW (Sit.QP hN) hP))
 have HSt:=hid (gd_Step (c:=c) hP.san)
 have n1:=qN (!D.grave.isEmpty)
 clear h hP
 go_enter Tryz.func22,Tryz.ntmps22
 go_wp2_with fail
 generalize wr.alloc (.cells #[.int .u8 4,.int .i64 r,.int .i64 i,.int .i64 x,.int .i64 sp,.int .i64 sd] 33)=w0 at*
 generalize wr.heap.size=n0 at*
 have b0:w0.cell? ⟨n0,0,none⟩=some (.int .u8 4):=HBk.out.cell 0 rfl
 have b1:w0.cell? ⟨n0,1,none⟩=some (.int .i64 r):=HBk.out.cell 1 rfl
 have b2:w0.cell? ⟨n0,2,none⟩=some (.int .i64 i):=HBk.out.cell 2 rfl
 have b3:w0.cell? ⟨n0,3,none⟩=some (.int .i64 x):=HBk.out.cell 3 rfl
 have b4:w0.cell? ⟨n0,4,none⟩=some (.int .i64 sp):=HBk.out.cell 4 rfl
 have b5:w0.cell? ⟨n0,5,none⟩=some (.int .i64 sd):=HBk.out.cell 5 rfl
 refine(HWh.out _ HT0.out.st).mono ?_
 rintro e w1 ⟨rfl,hS,hT⟩
 have H1:=hid hS
 clear hS hT
 go_wp2_with fail
 refine(H1.out.does HSt.out).mono ?_
 rintro e w2 ⟨rfl,hS,hT⟩
 have H2:=hid hS
 clear hS hT
 go_wp2_with fail
 go_ret
 exact⟨rfl,H2.out⟩
set_option maxHeartbeats 2000000 in
theorem PY(h:kX w p q lo c D D m wr)(hP:Sit c D)(hN:c.N≤1000)(r i x sp sd:Int):
  Calls Tryz.prog 22 #[.pointer (some ⟨p.a,0,none⟩),.pointer (some ⟨q,0,none⟩),.agg #[.int .u8 5,.int .i64 r,.int .i64 i,.int .i64 x,.int .i64 sp,.int .i64 sd]] wr (FP w p q lo c (D.eY (c.W*c.W))):=by
 have HBk:=hid (Blk.new wr #[.int .u8 5,.int .i64 r,.int .i64 i,.int .i64 x,.int .i64 sp,.int .i64 sd] 33)
 have HNo:=hid h.box
 have HT0:=hid (h.later (below_new wr (.cells #[.int .u8 5,.int .i64 r,.int .i64 i,.int .i64 x,.int .i64 sp,.int .i64 sd] 33)))
 have hE:Ends (c.W*c.W) D:=hP.san.ends (by
  rw[hP.wd.1]
  have:=hP.wd.2.w
  exact Nat.le_trans (by omega) (Nat.mul_le_mul_left c.W (show 1≤c.W by omega)))
 have HWh:=hid (fun wz D1 (hz:kY w p q lo c D1 D wz)=>hz.world (Ik hz.2.1 (Sit.QP hN) hP hE))
 have HRl:=hid (fun wz D2 (hz:kY w p q lo c D D2 wz)=>Dv hz.1 hP.san)
 have n1:=qN (D.gF (c.W*c.W))
 generalize D.gF (c.W*c.W)=vb at*
 generalize D.eY (c.W*c.W)=DR at*
 clear h hP hE
 go_enter Tryz.func22,Tryz.ntmps22
 go_wp2_with fail
 generalize wr.alloc (.cells #[.int .u8 5,.int .i64 r,.int .i64 i,.int .i64 x,.int .i64 sp,.int .i64 sd] 33)=w0 at*
 generalize wr.heap.size=n0 at*
 have b0:w0.cell? ⟨n0,0,none⟩=some (.int .u8 5):=HBk.out.cell 0 rfl
 have b1:w0.cell? ⟨n0,1,none⟩=some (.int .i64 r):=HBk.out.cell 1 rfl
 have b2:w0.cell? ⟨n0,2,none⟩=some (.int .i64 i):=HBk.out.cell 2 rfl
 have b3:w0.cell? ⟨n0,3,none⟩=some (.int .i64 x):=HBk.out.cell 3 rfl
 have b4:w0.cell? ⟨n0,4,none⟩=some (.int .i64 sp):=HBk.out.cell 4 rfl
 have b5:w0.cell? ⟨n0,5,none⟩=some (.int .i64 sd):=HBk.out.cell 5 rfl
 refine(HRl.out _ _ HT0.out.st).mono ?_
 rintro e w1 ⟨rfl,⟨hS,_⟩,hT⟩
 have H1:Hid (kY w p q lo c DR D w1):=hid ⟨hS,HT0.out.st.2.1.touch hT (fun b hb hx=>HT0.out.st.2.2.1 b hb (Or.inr hx)),HT0.out.st.2.2⟩
 clear hS hT
 go_wp2_with fail
 refine(HWh.out _ _ H1.out).mono ?_
 rintro e w2 ⟨rfl,hS,hT⟩
 have H2:=hid hS
 clear hS hT
 go_wp2_with fail
 go_ret
 exact⟨rfl,H2.out⟩
set_option maxHeartbeats 2000000 in
theorem PV(h:kX w p q lo c D D m wr)(r i x sp sd:Int){v:Bool}{B:Nat}(HP:Does c D 45 [.int .i64 r] B D' (.bool v))(HW:∀wz,aV wz lo q D→Calls Tryz.prog 71 #[.pointer (some ⟨q,0,none⟩),.int .i64 r] wz (cZ wz lo q D' (.bool v))):
  Calls Tryz.prog 22 #[.pointer (some ⟨p.a,0,none⟩),.pointer (some ⟨q,0,none⟩),.agg #[.int .u8 2,.int .i64 r,.int .i64 i,.int .i64 x,.int .i64 sp,.int .i64 sd]] wr (FP w p q lo c D'):=by
 have HBk:=hid (Blk.new wr #[.int .u8 2,.int .i64 r,.int .i64 i,.int .i64 x,.int .i64 sp,.int .i64 sd] 33)
 have HNo:=hid h.box
 have HT0:=hid (h.later (below_new wr (.cells #[.int .u8 2,.int .i64 r,.int .i64 i,.int .i64 x,.int .i64 sp,.int .i64 sd] 33)))
 have HPh:=hid HP
 have HWh:=hid (fun wz m' D1 (hz:kX w p q lo c D1 D m' wz)=>hz.world (HW wz hz.2.1))
 have n1:(v==v)=true:=qN v
 clear h HP HW
 go_enter Tryz.func22,Tryz.ntmps22
 go_wp2_with fail
 generalize wr.alloc (.cells #[.int .u8 2,.int .i64 r,.int .i64 i,.int .i64 x,.int .i64 sp,.int .i64 sd] 33)=w0 at*
 generalize wr.heap.size=n0 at*
 have b0:w0.cell? ⟨n0,0,none⟩=some (.int .u8 2):=HBk.out.cell 0 rfl
 have b1:w0.cell? ⟨n0,1,none⟩=some (.int .i64 r):=HBk.out.cell 1 rfl
 have b2:w0.cell? ⟨n0,2,none⟩=some (.int .i64 i):=HBk.out.cell 2 rfl
 have b3:w0.cell? ⟨n0,3,none⟩=some (.int .i64 x):=HBk.out.cell 3 rfl
 have b4:w0.cell? ⟨n0,4,none⟩=some (.int .i64 sp):=HBk.out.cell 4 rfl
 have b5:w0.cell? ⟨n0,5,none⟩=some (.int .i64 sd):=HBk.out.cell 5 rfl
 have HTd:=hid HT0.out.drew
 go_region_with (first|(go_at_call 45;refine(HTd.out.does HPh.out).mono ?_;rintro e w1 ⟨rfl,⟨d,hd,hS⟩,hT⟩;have hk:=HBk.out.drew.touch hT HNo.out;have b0:w1.cell? ⟨n0,0,none⟩=some (.int .u8 2):=hk.cell 0 rfl;have b1:w1.cell? ⟨n0,1,none⟩=some (.int .i64 r):=hk.cell 1 rfl;have b2:w1.cell? ⟨n0,2,none⟩=some (.int .i64 i):=hk.cell 2 rfl;have b3:w1.cell? ⟨n0,3,none⟩=some (.int .i64 x):=hk.cell 3 rfl;have H1:=hid hS;clear hS hd hT hk)|(go_at_call 71;refine(HWh.out _ _ _ H1.out).mono ?_;rintro e w2 ⟨rfl,hS⟩;have H2:=hid hS;clear hS))
 all_goals (go_wp2_with fail)
 all_goals go_ret
 all_goals exact⟨rfl,H2.out.st⟩
set_option maxHeartbeats 2000000 in
theorem PW(h:kX w p q lo c D D m wr)(r i x sp sd:Int){v:Bool}{B:Nat}(HP:Does c D 44 [.int .i64 r] B D' (.bool v))(HW:∀wz,aV wz lo q D→Calls Tryz.prog 72 #[.pointer (some ⟨q,0,none⟩),.int .i64 r] wz (cZ wz lo q D' (.bool v))):
  Calls Tryz.prog 22 #[.pointer (some ⟨p.a,0,none⟩),.pointer (some ⟨q,0,none⟩),.agg #[.int .u8 3,.int .i64 r,.int .i64 i,.int .i64 x,.int .i64 sp,.int .i64 sd]] wr (FP w p q lo c D'):=by
 have HBk:=hid (Blk.new wr #[.int .u8 3,.int .i64 r,.int .i64 i,.int .i64 x,.int .i64 sp,.int .i64 sd] 33)
 have HNo:=hid h.box
 have HT0:=hid (h.later (below_new wr (.cells #[.int .u8 3,.int .i64 r,.int .i64 i,.int .i64 x,.int .i64 sp,.int .i64 sd] 33)))
 have HPh:=hid HP
 have HWh:=hid (fun wz m' D1 (hz:kX w p q lo c D1 D m' wz)=>hz.world (HW wz hz.2.1))
 have n1:(v==v)=true:=qN v
 clear h HP HW
 go_enter Tryz.func22,Tryz.ntmps22
 go_wp2_with fail
 generalize wr.alloc (.cells #[.int .u8 3,.int .i64 r,.int .i64 i,.int .i64 x,.int .i64 sp,.int .i64 sd] 33)=w0 at*
 generalize wr.heap.size=n0 at*
 have b0:w0.cell? ⟨n0,0,none⟩=some (.int .u8 3):=HBk.out.cell 0 rfl
 have b1:w0.cell? ⟨n0,1,none⟩=some (.int .i64 r):=HBk.out.cell 1 rfl
 have b2:w0.cell? ⟨n0,2,none⟩=some (.int .i64 i):=HBk.out.cell 2 rfl
 have b3:w0.cell? ⟨n0,3,none⟩=some (.int .i64 x):=HBk.out.cell 3 rfl
 have b4:w0.cell? ⟨n0,4,none⟩=some (.int .i64 sp):=HBk.out.cell 4 rfl
 have b5:w0.cell? ⟨n0,5,none⟩=some (.int .i64 sd):=HBk.out.cell 5 rfl
 have HTd:=hid HT0.out.drew
 go_region_with (first|(go_at_call 44;refine(HTd.out.does HPh.out).mono ?_;rintro e w1 ⟨rfl,⟨d,hd,hS⟩,hT⟩;have hk:=HBk.out.drew.touch hT HNo.out;have b0:w1.cell? ⟨n0,0,none⟩=some (.int .u8 3):=hk.cell 0 rfl;have b1:w1.cell? ⟨n0,1,none⟩=some (.int .i64 r):=hk.cell 1 rfl;have b2:w1.cell? ⟨n0,2,none⟩=some (.int .i64 i):=hk.cell 2 rfl;have b3:w1.cell? ⟨n0,3,none⟩=some (.int .i64 x):=hk.cell 3 rfl;have H1:=hid hS;clear hS hd hT hk)|(go_at_call 72;refine(HWh.out _ _ _ H1.out).mono ?_;rintro e w2 ⟨rfl,hS⟩;have H2:=hid hS;clear hS))
 all_goals (go_wp2_with fail)
 all_goals go_ret
 all_goals exact⟨rfl,H2.out.st⟩
set_option maxHeartbeats 2000000 in
theorem PU(h:kX w p q lo c D D m wr)(r i x sp sd:Int){v:Int}{B:Nat}(HP:Does c D 43 [.int .i64 r,.int .i64 i,.int .i64 x] B D' (.int .i64 v))
  (HF:∀Bd wz lab a,WA.q a=q→ah wz lo lab a D→(∀(i:Nat) (t:Th) (x:TA),D.ts[i]? =some t→a.tas[i]? =some x→0<t.pt.length→∀g,x.pa=some ⟨g,0,none⟩→g<Bd)→Calls Tryz.prog 70 #[.pointer (some ⟨q,0,none⟩),.int .i64 r,.int .i64 i,.int .i64 x] wz (jo Bd wz lo a D' (.int .i64 v))):
  Calls Tryz.prog 22 #[.pointer (some ⟨p.a,0,none⟩),.pointer (some ⟨q,0,none⟩),.agg #[.int .u8 1,.int .i64 r,.int .i64 i,.int .i64 x,.int .i64 sp,.int .i64 sd]] wr (FP w p q lo c D'):=by
 have HBk:=hid (Blk.new wr #[.int .u8 1,.int .i64 r,.int .i64 i,.int .i64 x,.int .i64 sp,.int .i64 sd] 33)
 have HNo:=hid h.box
 have HT0:=hid (h.later (below_new wr (.cells #[.int .u8 1,.int .i64 r,.int .i64 i,.int .i64 x,.int .i64 sp,.int .i64 sd] 33)))
 have HPh:=hid HP
 obtain⟨lab,a,ea,hwa⟩:=h.2.1
 have HNx:=hid hwa.Pz
 have HEa:=hid ea
 have HWa:Hid (ah (wr.alloc (.cells #[.int .u8 1,.int .i64 r,.int .i64 i,.int .i64 x,.int .i64 sp,.int .i64 sd] 33)) lo lab a D):=hid (hwa.later (below_new wr _))
 have HFh:=hid (fun wz (hw:ah wz lo lab a D)=>HF wr.heap.size wz lab a ea hw hwa.Qw)
 have HX:Hid (∀b,lo≤b→¬inG p b):=hid (fun b hb hx=>h.2.2.1 b hb (Or.inr hx))
 have n1:(v==v)=true:=beq_self_eq_true v
 clear h HP HF hwa ea
 go_enter Tryz.func22,Tryz.ntmps22
 go_wp2_with fail
 generalize wr.alloc (.cells #[.int .u8 1,.int .i64 r,.int .i64 i,.int .i64 x,.int .i64 sp,.int .i64 sd] 33)=w0 at*
 generalize wr.heap.size=n0 at*
 have b0:w0.cell? ⟨n0,0,none⟩=some (.int .u8 1):=HBk.out.cell 0 rfl
 have b1:w0.cell? ⟨n0,1,none⟩=some (.int .i64 r):=HBk.out.cell 1 rfl
 have b2:w0.cell? ⟨n0,2,none⟩=some (.int .i64 i):=HBk.out.cell 2 rfl
 have b3:w0.cell? ⟨n0,3,none⟩=some (.int .i64 x):=HBk.out.cell 3 rfl
 have b4:w0.cell? ⟨n0,4,none⟩=some (.int .i64 sp):=HBk.out.cell 4 rfl
 have b5:w0.cell? ⟨n0,5,none⟩=some (.int .i64 sd):=HBk.out.cell 5 rfl
 have HTd:=hid HT0.out.drew
 go_region_held3 (fun w'=>w'.cell? ⟨n0,1,none⟩=some (.int .i64 r)∧w'.cell? ⟨n0,2,none⟩=some (.int .i64 i)∧w'.cell? ⟨n0,3,none⟩=some (.int .i64 x)) (first|exact⟨b1,b2,b3⟩|exact⟨d1,d2,d3⟩|exact⟨e1,e2,e3⟩) (first|(go_at_call 43;refine(HTd.out.does HPh.out).mono ?_;rintro e w1 ⟨rfl,⟨d,hd,hS⟩,hT⟩;have hk:=HBk.out.drew.touch hT HNo.out;have d1:w1.cell? ⟨n0,1,none⟩=some (.int .i64 r):=hk.cell 1 rfl;have d2:w1.cell? ⟨n0,2,none⟩=some (.int .i64 i):=hk.cell 2 rfl;have d3:w1.cell? ⟨n0,3,none⟩=some (.int .i64 x):=hk.cell 3 rfl;have HW1:=hid (HWa.out.drew.touch hT (fun b hb _ hx=>HX.out b hb hx));have HK:=hid hk;have H1:=hid hS;clear hS hd hT hk)|(go_at_call 70;refine(HFh.out _ HW1.out).mono ?_;rintro e w2 ⟨rfl,k1,k2⟩;have hk:=HK.out.touch k2 HNx.out;have e1:w2.cell? ⟨n0,1,none⟩=some (.int .i64 r):=hk.cell 1 rfl;have e2:w2.cell? ⟨n0,2,none⟩=some (.int .i64 i):=hk.cell 2 rfl;have e3:w2.cell? ⟨n0,3,none⟩=some (.int .i64 x):=hk.cell 3 rfl;have H2:=hid (H1.out.next (HEa.out▸k1) (k2.mono (fun b _ hx=>HW1.out.Px hx)));clear k1 k2 hk))
 all_goals (go_wp2_with fail)
 all_goals go_ret
 all_goals exact⟨rfl,H2.out.st⟩
set_option maxHeartbeats 2000000 in
theorem PT(h:kX w p q lo c D D m wr)(I:PInv c k D)(hN:c.N≤1000)(hk:k≤1000)(r i x sp sd:Int):
  Calls Tryz.prog 22 #[.pointer (some ⟨p.a,0,none⟩),.pointer (some ⟨q,0,none⟩),.agg #[.int .u8 0,.int .i64 r,.int .i64 i,.int .i64 x,.int .i64 sp,.int .i64 sd]] wr (fun e w'=>FP w p q lo c (D.born sp sd) e w'∧PInv c (k+1) (D.born sp sd)):=by
 have hsit:=h.st.1.sit I.san
 have hlens:=hsit.lens
 have HBk:=hid (Blk.new wr #[.int .u8 0,.int .i64 r,.int .i64 i,.int .i64 x,.int .i64 sp,.int .i64 sd] 33)
 have HNo:=hid h.box
 have HT0:=hid (h.later (below_new wr (.cells #[.int .u8 0,.int .i64 r,.int .i64 i,.int .i64 x,.int .i64 sp,.int .i64 sd] 33)))
 have HIn:=hid I
 have HBo:=hid (fun wz (hz:kX w p q lo c D D m wz)=>JB c D sp sd hz.1)
 have HWh:=hid (fun wz m' D1 (hz:kX w p q lo c D1 D m' wz) (hok:BornOk D sp sd c.N)=>hz.world (OI hz.2.1 sp sd (by omega) (by have:=I.hd.1;simp at this;omega) (by
  unfold Wd.mkB
  cases hc:D.clean with
  |nil=>simp
  |cons b l=>
   obtain⟨zs,hz,R⟩:=hsit.lN
   have:=R.heap.pl.ch.lt b (by rw[hc];simp)
   simp
   omega) (fun hE=>by
    obtain⟨t,h1,_,h2⟩:=hok.new hE
    exact⟨t,h1,by rw[h2];rfl⟩)))
 have n1:(D.mkR sp sd==D.mkR sp sd)=true:=beq_self_eq_true _
 have n2:(D.mkE sp sd==D.mkE sp sd)=true:=beq_self_eq_true _
 generalize D.mkR sp sd=R0 at*
 generalize D.mkE sp sd=E0 at*
 generalize hDb:D.born sp sd=Db at*
 have HDb:=hid hDb
 clear h hsit hlens I hDb
 go_enter Tryz.func22,Tryz.ntmps22
 go_wp2_with fail
 generalize wr.alloc (.cells #[.int .u8 0,.int .i64 r,.int .i64 i,.int .i64 x,.int .i64 sp,.int .i64 sd] 33)=w0 at*
 generalize wr.heap.size=n0 at*
 refine(HBo.out _ HT0.out).mono ?_
 rintro e w1 ⟨rfl,⟨⟨d,hd,hS⟩,hok⟩,hT⟩
 have hk1:=HBk.out.touch hT HNo.out
 have HOk:=hid hok
 have H1:Hid (kX w p q lo c Db D (m+d) w1):=hid ⟨hS,HT0.out.2.1.touch hT (fun b hb hx=>HT0.out.2.2.1 b hb (Or.inr hx)),HT0.out.2.2⟩
 clear hd hS hok hT
 have b4:w1.cell? ⟨n0,4,none⟩=some (.int .i64 sp):=hk1.cell 4 rfl
 have b5:w1.cell? ⟨n0,5,none⟩=some (.int .i64 sd):=hk1.cell 5 rfl
 clear hk1
 go_wp2_with fail
 refine(HWh.out _ _ _ H1.out HOk.out).mono ?_
 rintro e w2 ⟨rfl,hS⟩
 have H2:=hid hS
 clear hS b4 b5
 go_wp2_with fail
 go_ret
 exact⟨⟨rfl,H2.out.st⟩,by have:=HIn.out.born HOk.out;rw[HDb.out] at this;exact this⟩
theorem FE(h:kX w p q lo c D D m wr)(I:PInv c k D)(hN:c.N≤1000)(hk:k≤1000)(a r i x sp sd:Int)(hr:In64 r)(hx:In64 x)(ha:0≤a∧a<6):
  Calls Tryz.prog 22 #[.pointer (some ⟨p.a,0,none⟩),.pointer (some ⟨q,0,none⟩),.agg #[.int .u8 a,.int .i64 r,.int .i64 i,.int .i64 x,.int .i64 sp,.int .i64 sd]] wr
   fun e w'=>e=.returned (.bool true)∧∃D',kY w p q lo c D' D' w'∧PInv c (k+1) D':=by
 have hs:=h.st.1.sit I.san
 have h4:a=0∨a=1∨a=2∨a=3∨a=4∨a=5:=by omega
 rcases h4 with rfl|rfl|rfl|rfl|rfl|rfl
 ·exact(PT h I hN hk r i x sp sd).mono fun e w' ⟨⟨e1,e2⟩,e3⟩=>⟨e1,_,e2,e3⟩
 ·obtain⟨B,D',v,hB,HP,HW,I'⟩:=Kb (lo:=lo) (q:=q) hs I hN hk hr hx i
  exact(PU h r i x sp sd HP HW).mono fun e w' ⟨e1,e2⟩=>⟨e1,_,e2,I'⟩
 ·obtain⟨B,hB,HP,HW,I'⟩:=JA (lo:=lo) (q:=q) hs I hN hr
  exact(PV h r i x sp sd HP HW).mono fun e w' ⟨e1,e2⟩=>⟨e1,_,e2,I'⟩
 ·obtain⟨B,hB,HP,HW,I'⟩:=Gi (lo:=lo) (q:=q) hs I hN hk hr
  exact(PW h r i x sp sd HP HW).mono fun e w' ⟨e1,e2⟩=>⟨e1,_,e2,I'⟩
 ·exact(PX h hs hN r i x sp sd).mono fun e w' ⟨e1,e2⟩=>⟨e1,_,e2,I.step.up⟩
 ·exact(PY h hs hN r i x sp sd).mono fun e w' ⟨e1,e2⟩=>⟨e1,_,e2,(I.eY _).up⟩
def OY(w wr:World)(p:Pl)(q lo:Nat)(c:Cf)(D':Wd)(e:Ending)(w':World):Prop:=e=.returned (.bool true)∧kY w p q lo c D' D' w'∧Touch (fun b=>inG p b∨b=q) wr w'
theorem CJ(h:aV wr lo q D)(ph:Int)(h0:0≤ph)(h3:ph≤3):
  Calls Tryz.prog 77 #[.pointer (some ⟨q,0,none⟩),.int .i64 ph] wr (fun e w'=>e=.returned (.bool true)∧aV w' lo q (D.begin ph)∧Touch (fun b=>b=q) wr w'):=by
 obtain⟨lab,a,rfl,h⟩:=h
 have H:=hid h
 have g3:=h.c3
 have g4:=h.c4
 have g5:=h.c5
 have g6:=h.c6
 have g7:=h.c7
 have z3:=h.wb.free 3
 have z4:=h.wb.free 4
 have z5:=h.wb.free 5
 have z6:=h.wb.free 6
 have z7:=h.wb.free 7
 clear h
 go_enter Tryz.func77,Tryz.ntmps77
 go_wp2_with fail
 go_ret
 have k1:=H.out.dV (D':={D with phase:=ph}) (k:=3) (u:=.int .i64 ph) rfl rfl rfl rfl rfl rfl rfl
 have k2:=k1.dV (D':={D with phase:=ph,cursor:=0}) (k:=4) (u:=.int .i64 0) rfl rfl rfl rfl rfl rfl rfl
 have k3:=k2.dV (D':={D with phase:=ph,cursor:=0,field:=0}) (k:=5) (u:=.int .i64 0) rfl rfl rfl rfl rfl rfl rfl
 have k4:=k3.dV (D':={D with phase:=ph,cursor:=0,field:=0,scan:=0}) (k:=6) (u:=.int .i64 0) rfl rfl rfl rfl rfl rfl rfl
 have k5:=k4.dV (D':=D.begin ph) (k:=7) (u:=.int .i64 0) rfl rfl rfl rfl rfl rfl rfl
 exact⟨rfl,⟨lab,a,rfl,k5⟩,(((((Touch.refl (fun b=>b=a.q) _).setCell (p:=⟨a.q,3,none⟩) (fun _=>rfl) _).setCell (p:=⟨a.q,4,none⟩) (fun _=>rfl) _).setCell (p:=⟨a.q,5,none⟩) (fun _=>rfl) _).setCell (p:=⟨a.q,6,none⟩) (fun _=>rfl) _).setCell (p:=⟨a.q,7,none⟩) (fun _=>rfl) _⟩
set_option maxHeartbeats 2000000 in
theorem GY(h:kX w p q lo c D D m wr)(ph:Int)(h0:0≤ph)(h3:ph≤3):
  Calls Tryz.prog 20 #[.pointer (some ⟨p.a,0,none⟩),.pointer (some ⟨q,0,none⟩),.int .i64 ph,.bool false] wr (OY w wr p q lo c (D.begin ph)):=by
 have HT0:=hid h
 have HPh:=hid (ld_begin (c:=c) (D:=D) ph h0 h3)
 have HWh:=hid (fun wz (hz:aV wz lo q D)=>CJ hz ph h0 h3)
 have HLq:=hid h.2.1.lq
 generalize D.begin ph=DB at*
 clear h h0 h3
 go_enter Tryz.func20,Tryz.ntmps20
 go_wp2_with fail
 refine(HT0.out.does HPh.out).mono ?_
 rintro e w1 ⟨rfl,⟨d,hd,hS⟩,hT⟩
 have H1:=hid hS
 have T1:=hid hT
 clear hS hT hd
 go_wp2_with fail
 refine(HWh.out _ H1.out.2.1).mono ?_
 rintro e w2 ⟨rfl,k1,k2⟩
 have H2:=hid (H1.out.next k1 (k2.mono (fun b _ e=>by subst e;exact HLq.out)))
 have T2:Hid (Touch (fun b=>inG p b∨b=q) wr w2):=hid ((T1.out.mono (fun b _ hb=>Or.inl hb)).trans (k2.mono (fun b _ hb=>Or.inr hb)))
 clear k1 k2
 go_wp2_with fail
 go_ret
 exact⟨rfl,H2.out.st,T2.out⟩
set_option maxHeartbeats 2000000 in
theorem Cc(h:kX w p q lo c D D m wr)(hp:D.parity=0∨D.parity=1)(ph:Int)(h0:0≤ph)(h3:ph≤3):
  Calls Tryz.prog 20 #[.pointer (some ⟨p.a,0,none⟩),.pointer (some ⟨q,0,none⟩),.int .i64 ph,.bool true] wr (OY w wr p q lo c (D.turn.begin ph)):=by
 obtain⟨vt,ht⟩:=tintFns.turn c D
 have HTu:=hid ht
 have HT0:=hid h
 have hwp:IntKind.i64.wrap (1-D.parity)=1-D.parity:=IntWalk.i64_in _ (by omega)
 have HPh:=hid (ld_begin (c:=c) (D:=D.turn) ph h0 h3)
 have HWh:=hid (fun wz (hz:aV wz lo q D.turn)=>CJ hz ph h0 h3)
 have HLq:=hid h.2.1.lq
 generalize D.turn.begin ph=DB at*
 clear h ht hp h0 h3
 go_enter Tryz.func20,Tryz.ntmps20
 go_wp2_with fail
 refine(HT0.out.does HTu.out).mono ?_
 rintro e w1 ⟨rfl,⟨d,hd,hS⟩,hT⟩
 have H1:=hid hS
 have T1:=hid hT
 clear hS hT hd
 obtain⟨s1,s2,s3,s4⟩:=H1.out.2.1.xZ (1-D.parity)
 have HS:=hid s1
 clear s1
 have T2:=hid ((T1.out.mono (fun b _ hb=>Or.inl hb)).setCell (X:=fun b=>inG p b∨b=q) (p:=⟨q,2,none⟩) (fun _=>.inr rfl) (.int .i64 (1-D.parity)))
 have H2:Hid (kX w p q lo c D.turn D.turn (m+d) (w1.setCell ⟨q,2,none⟩ (.int .i64 (1-D.parity)))):=hid (H1.out.next HS.out ((Touch.refl (fun b=>lo≤b) w1).setCell (p:=⟨q,2,none⟩) (fun _=>HLq.out) _))
 go_wp2_with fail
 generalize w1.setCell ⟨q,2,none⟩ (.int .i64 (1-D.parity))=w2 at*
 refine(H2.out.does HPh.out).mono ?_
 rintro e w3 ⟨rfl,⟨d2,hd,hS⟩,hT⟩
 have H3:=hid hS
 have T3:=hid (T2.out.trans (hT.mono (fun b _ hb=>Or.inl hb)))
 clear hS hT hd s2 s3 s4
 go_wp2_with fail
 refine(HWh.out _ H3.out.2.1).mono ?_
 rintro e w4 ⟨rfl,k1,k2⟩
 have H4:=hid (H3.out.next k1 (k2.mono (fun b _ e=>by subst e;exact HLq.out)))
 have T4:=hid (T3.out.trans (k2.mono (fun b _ hb=>Or.inr hb)))
 clear k1 k2
 go_wp2_with fail
 go_ret
 exact⟨rfl,H4.out.st,T4.out⟩
theorem Eh(h:kX w p q lo c D D m wr)(I:PInv c k D)(ph:Int)(h0:0≤ph)(h3:ph≤3)(b:Bool):
  Calls Tryz.prog 20 #[.pointer (some ⟨p.a,0,none⟩),.pointer (some ⟨q,0,none⟩),.int .i64 ph,.bool b] wr
   fun e w'=>e=.returned (.bool true)∧∃D',kY w p q lo c D' D' w'∧PInv c (k+2) D'∧Touch (fun b=>inG p b∨b=q) wr w':=by
 obtain⟨zs,hz,R⟩:=(h.st.1.sit I.san).lN
 cases b with
 |false=>exact(GY h ph h0 h3).mono fun e w' ⟨e1,e2,e3⟩=>⟨e1,_,e2,(I.begin_ ph).up,e3⟩
 |true=>exact(Cc h R.par ph h0 h3).mono fun e w' ⟨e1,e2,e3⟩=>⟨e1,_,e2,I.turn.begin_ ph,e3⟩
end
section
variable {w wr w':World} {p:Pl} {q lo m k n:Nat} {c:Cf} {D D2 D':Wd} {t u:Th} {r i x y sp sd:Int}
theorem Sit.Kw(hs:Sit c D)(hN:c.N≤1000)(h:aV wr lo q D):Calls Tryz.prog 24 #[.pointer (some ⟨q,0,none⟩)] wr (cZ wr lo q D.tally (.bool D.tallyB)):=by
 obtain⟨zs,hz,R⟩:=hs.lN
 obtain⟨⟨k0,k1⟩,f0,f1⟩:=R.curs hz
 obtain⟨lab,a,rfl,hw⟩:=h
 exact MW hw (hs.wb hN) k0 f0 k1 (fun t ht=>by have:=(hs.Lg ht).small;omega)
end
set_option maxHeartbeats 4000000 in
theorem vE(n v:Nat)(cr ck:Int)(a:Option Addr)(cap:Nat)(rs:List (List Fld))(tb:Bool)(w:World)(h0:1≤n)(h1:n≤40)(h2:16≤v)(h3:v≤18)(h4:rs.length≤120)(hrs:Recs w a [.int .u8,.int .i64,.int .i64,.int .i64,.int .i64,.int .i64] rs):
  Calls Tryz.prog 4 #[.agg #[.int .i64 (n:Int),.int .i64 (v:Int),.int .i64 cr,.int .i64 ck],.slice a rs.length cap,.bool tb] w fun e w'=>e=.returned (.bool true)∧Below w.heap.size w w':=by
 have hm:(Cf.mk n v 1 1).May:=by
  have e1:(n:Int)*(v:Int)≤40*18:=Int.mul_le_mul (by omega) (by omega) (by omega) (by omega)
  constructor<;>simp<;>omega
 have HO:=hid (fun wz=>openedRW_any poolFns ⟨n,v,1,1⟩ wz hm (by show n≤10000;omega))
 have HRs:=hid hrs
 have g0:¬(n:Int)<1:=by omega
 have g1:¬40<(n:Int):=by omega
 have g2:¬(v:Int)<16:=by omega
 have g3:¬18<(v:Int):=by omega
 have g4:¬120<(rs.length:Int):=by omega
 have HN:Hid (n≤1000∧v≤18∧rs.length≤120):=hid ⟨by omega,h3,h4⟩
 have HI0:=hid (PInv.new (Cf.mk n v 1 1) (v:=v) h2)
 obtain⟨T,hT⟩:∃T:Nat,T=rs.length/3:=⟨_,rfl⟩
 have q3:(rs.length:Int).tdiv 3=(T:Int):=by
  rw[hT,Int.tdiv_eq_ediv_of_nonneg (by omega)]
  rfl
 have w3:wrap64 (T:Int)=(T:Int):=IntWalk.wrap64_in _ (by omega)
 clear hrs hm h0 h1 h2 h3 h4 hT
 go_enter Tryz.func4,Tryz.ntmps4
 go_wp2_with fail
 have HB0:=hid (below_new w (.cells #[.int .i64 (n:Int),.int .i64 (v:Int),.int .i64 1,.int .i64 1] 23))
 generalize hw0:w.alloc (.cells #[.int .i64 (n:Int),.int .i64 (v:Int),.int .i64 1,.int .i64 1] 23)=w0 at*
 refine(HO.out w0).mono ?_
 rintro e w1 ⟨p,q,lo,rfl,hS,hW,hlo,hs1,hs2⟩
 have HS0:Hid (kY w0 p q lo ⟨n,v,1,1⟩ (Wd.new n v) (Wd.new n v) w1):=hid ⟨hS,hW,hlo,hs1⟩
 clear hS hW hlo hs1 hs2
 go_wp2_with fail
 go_loopw [49] (fun i wr=>∃k:Nat,k≤rs.length∧i=.int .i64 (k:Int)∧∃D,kY w0 p q lo ⟨n,v,1,1⟩ D D wr∧PInv ⟨n,v,1,1⟩ (3*k) D) (fun i _=>rs.length-(intOf i).toNat)
 case atStart=>exact⟨0,Nat.zero_le _,rfl,_,HS0.out,HI0.out⟩
 case round=>
  obtain⟨k,hk,rfl,D,hS,hI⟩:=hrel
  have HI:=hid hI
  have HBe:Hid (Below w.heap.size w wr):=hid (below_step HB0.out hS.1.below)
  by_cases hlt:k<rs.length
  ·obtain⟨b,off,kd,r,i,x,sp,sd,rfl,hb0,x0,x1,x2,x3,x4,x5,hkd,hr,hx⟩:=lact_of HRs.out hlt
   have y0:=(HBe.out.cell (p:=⟨b,off+k*6,none⟩) hb0).trans x0
   have y1:=(HBe.out.cell (p:=⟨b,off+k*6+1,none⟩) hb0).trans x1
   have y2:=(HBe.out.cell (p:=⟨b,off+k*6+2,none⟩) hb0).trans x2
   have y3:=(HBe.out.cell (p:=⟨b,off+k*6+3,none⟩) hb0).trans x3
   have y4:=(HBe.out.cell (p:=⟨b,off+k*6+4,none⟩) hb0).trans x4
   have y5:=(HBe.out.cell (p:=⟨b,off+k*6+5,none⟩) hb0).trans x5
   obtain⟨m,hM⟩:=hS.sm
   have HBk:=hid (Blk.new wr #[.int .u8 kd,.int .i64 r,.int .i64 i,.int .i64 x,.int .i64 sp,.int .i64 sd] 33)
   have HNo:=hid hM.box
   have HQn:Hid (wr.heap.size≠q):=hid (by have:=(hM.2.1.xZ 0).2.2.2;omega)
   have HM0:=hid (hM.later (below_new wr (.cells #[.int .u8 kd,.int .i64 r,.int .i64 i,.int .i64 x,.int .i64 sp,.int .i64 sd] 33)))
   have HR:=hid hr
   have HX:=hid hx
   have HKd:=hid hkd
   have HK:Hid (3*k+2≤1000):=hid (by have:=HN.out.2.2;omega)
   clear hS hI hM hr hx hkd x0 x1 x2 x3 x4 x5 hb0
   by_cases hkT:k=T
   ·subst hkT
    have kq:((k:Int)==(k:Int))=true:=beq_self_eq_true _
    go_wp2_with fail
    generalize wr.alloc (.cells #[.int .u8 kd,.int .i64 r,.int .i64 i,.int .i64 x,.int .i64 sp,.int .i64 sd] 33)=wa at*
    generalize wr.heap.size=n0 at*
    refine(Eh HM0.out HI.out 1 (by decide) (by decide) tb).mono ?_
    rintro e wq ⟨rfl,DQ,hS,hI,hT⟩
    have hk1:=HBk.out.touch hT (fun hx=>hx.elim HNo.out HQn.out)
    have x0:wq.cell? ⟨n0,0,none⟩=some (.int .u8 kd):=hk1.cell 0 rfl
    have x1:wq.cell? ⟨n0,1,none⟩=some (.int .i64 r):=hk1.cell 1 rfl
    have x2:wq.cell? ⟨n0,2,none⟩=some (.int .i64 i):=hk1.cell 2 rfl
    have x3:wq.cell? ⟨n0,3,none⟩=some (.int .i64 x):=hk1.cell 3 rfl
    have x4:wq.cell? ⟨n0,4,none⟩=some (.int .i64 sp):=hk1.cell 4 rfl
    have x5:wq.cell? ⟨n0,5,none⟩=some (.int .i64 sd):=hk1.cell 5 rfl
    obtain⟨m,hM⟩:=hS.sm
    have HM:=hid hM
    have HQ:=hid hI
    clear hS hI hT hk1 hM y0 y1 y2 y3 y4 y5
    go_wp2_with fail
    refine(HM.out.oP).mono ?_
    rintro e wm ⟨rfl,rfl⟩
    by_cases hk6:kd<6
    ·have HK6:=hid hk6
     go_wp2_with fail
     refine(FE HM.out HQ.out HN.out.1 HK.out kd r i x sp sd HR.out HX.out ⟨HKd.out,HK6.out⟩).mono ?_
     rintro e w3 ⟨rfl,D',hS',hI'⟩
     have HI2:=hid hI'
     have HS2:=hid hS'
     have HL:=hid (PInv.lq (hS'.1.sit hI'.san) hI' HN.out.1 HN.out.2.1 (by have:=HN.out.2.2;omega))
     clear hI' hS'
     go_wp2_with fail
     refine(iE HS2.out HL.out).mono ?_
     rintro e w7 ⟨rfl,hS,hT⟩
     have H7:=hid hS
     clear hS hT
     go_wp2_with fail
     go_roundw
     case rel=>exact⟨k+1,by omega,by go_num,D',H7.out,HI2.out.mono (by omega)⟩
     case measure=>simp[intOf];omega
    ·have HK6:=hid hk6
     have HTl:=hid (HQ.out.ldTally HK.out)
     have HWt:=hid (fun wz D1 m1 (hz:kX w0 p q lo ⟨n,v,1,1⟩ D1 DQ m1 wz)=>hz.world ((HM.out.st.1.sit HQ.out.san).Kw HN.out.1 hz.2.1))
     have HIt:=hid HQ.out.tally
     have n1:=qN DQ.tallyB
     generalize DQ.tallyB=tb1 at*
     generalize DQ.tally=DT at*
     have HMt:Hid (∀d:Nat,d≤96→IntKind.u64.wrap (iT (m+d)-iT m)=(d:Int)∧(d:Int)≤96):=hid (fun d hd=>⟨CF m d (by omega),by omega⟩)
     go_wp2_with fail
     refine(HM.out.does HTl.out).mono ?_
     rintro e w3 ⟨rfl,⟨d,hd,hS⟩,hT⟩
     have hmt:=(HMt.out d hd).1
     have hdl:=(HMt.out d hd).2
     have H3:=hid hS
     clear hS hT hd
     go_wp2_with fail
     refine(HWt.out _ _ _ H3.out).mono ?_
     rintro e w4 ⟨rfl,hS⟩
     have H4:=hid hS
     clear hS
     go_wp2_with fail
     refine(H4.out.oP).mono ?_
     rintro e w5 ⟨rfl,rfl⟩
     obtain⟨D',hD'⟩:∃D',D'=DT:=⟨_,rfl⟩
     have hS':kY w0 p q lo ⟨n,v,1,1⟩ D' D' w4:=by rw[hD'];exact H4.out.st
     have hI':PInv ⟨n,v,1,1⟩ (3*k+2+1) D':=by rw[hD'];exact HIt.out
     have HI2:=hid hI'
     have HS2:=hid hS'
     have HL:=hid (PInv.lq (hS'.1.sit hI'.san) hI' HN.out.1 HN.out.2.1 (by have:=HN.out.2.2;omega))
     clear hI' hS'
     go_wp2_with fail
     refine(iE HS2.out HL.out).mono ?_
     rintro e w7 ⟨rfl,hS,hT⟩
     have H7:=hid hS
     clear hS hT
     go_wp2_with fail
     go_roundw
     case rel=>exact⟨k+1,by omega,by go_num,D',H7.out,HI2.out.mono (by omega)⟩
     case measure=>simp[intOf];omega
   ·have kq:((k:Int)==(T:Int))=false:=by rw[beq_eq_false_iff_ne];omega
    clear hkT
    have HM:=HM0
    have HQ:Hid (PInv ⟨n,v,1,1⟩ (3*k+2) D):=hid (HI.out.mono (by omega))
    obtain⟨DQ,hDQ⟩:∃DQ,DQ=D:=⟨_,rfl⟩
    rw[←hDQ] at HM HQ
    clear hDQ
    go_wp2_with fail
    generalize wr.alloc (.cells #[.int .u8 kd,.int .i64 r,.int .i64 i,.int .i64 x,.int .i64 sp,.int .i64 sd] 33)=wq at*
    generalize wr.heap.size=n0 at*
    have x0:wq.cell? ⟨n0,0,none⟩=some (.int .u8 kd):=HBk.out.cell 0 rfl
    have x1:wq.cell? ⟨n0,1,none⟩=some (.int .i64 r):=HBk.out.cell 1 rfl
    have x2:wq.cell? ⟨n0,2,none⟩=some (.int .i64 i):=HBk.out.cell 2 rfl
    have x3:wq.cell? ⟨n0,3,none⟩=some (.int .i64 x):=HBk.out.cell 3 rfl
    have x4:wq.cell? ⟨n0,4,none⟩=some (.int .i64 sp):=HBk.out.cell 4 rfl
    have x5:wq.cell? ⟨n0,5,none⟩=some (.int .i64 sd):=HBk.out.cell 5 rfl
    clear y0 y1 y2 y3 y4 y5
    refine(HM.out.oP).mono ?_
    rintro e wm ⟨rfl,rfl⟩
    by_cases hk6:kd<6
    ·have HK6:=hid hk6
     go_wp2_with fail
     refine(FE HM.out HQ.out HN.out.1 HK.out kd r i x sp sd HR.out HX.out ⟨HKd.out,HK6.out⟩).mono ?_
     rintro e w3 ⟨rfl,D',hS',hI'⟩
     have HI2:=hid hI'
     have HS2:=hid hS'
     have HL:=hid (PInv.lq (hS'.1.sit hI'.san) hI' HN.out.1 HN.out.2.1 (by have:=HN.out.2.2;omega))
     clear hI' hS'
     go_wp2_with fail
     refine(iE HS2.out HL.out).mono ?_
     rintro e w7 ⟨rfl,hS,hT⟩
     have H7:=hid hS
     clear hS hT
     go_wp2_with fail
     go_roundw
     case rel=>exact⟨k+1,by omega,by go_num,D',H7.out,HI2.out.mono (by omega)⟩
     case measure=>simp[intOf];omega
    ·have HK6:=hid hk6
     have HTl:=hid (HQ.out.ldTally HK.out)
     have HWt:=hid (fun wz D1 m1 (hz:kX w0 p q lo ⟨n,v,1,1⟩ D1 DQ m1 wz)=>hz.world ((HM.out.st.1.sit HQ.out.san).Kw HN.out.1 hz.2.1))
     have HIt:=hid HQ.out.tally
     have n1:=qN DQ.tallyB
     generalize DQ.tallyB=tb1 at*
     generalize DQ.tally=DT at*
     have HMt:Hid (∀d:Nat,d≤96→IntKind.u64.wrap (iT (m+d)-iT m)=(d:Int)∧(d:Int)≤96):=hid (fun d hd=>⟨CF m d (by omega),by omega⟩)
     go_wp2_with fail
     refine(HM.out.does HTl.out).mono ?_
     rintro e w3 ⟨rfl,⟨d,hd,hS⟩,hT⟩
     have hmt:=(HMt.out d hd).1
     have hdl:=(HMt.out d hd).2
     have H3:=hid hS
     clear hS hT hd
     go_wp2_with fail
     refine(HWt.out _ _ _ H3.out).mono ?_
     rintro e w4 ⟨rfl,hS⟩
     have H4:=hid hS
     clear hS
     go_wp2_with fail
     refine(H4.out.oP).mono ?_
     rintro e w5 ⟨rfl,rfl⟩
     obtain⟨D',hD'⟩:∃D',D'=DT:=⟨_,rfl⟩
     have hS':kY w0 p q lo ⟨n,v,1,1⟩ D' D' w4:=by rw[hD'];exact H4.out.st
     have hI':PInv ⟨n,v,1,1⟩ (3*k+2+1) D':=by rw[hD'];exact HIt.out
     have HI2:=hid hI'
     have HS2:=hid hS'
     have HL:=hid (PInv.lq (hS'.1.sit hI'.san) hI' HN.out.1 HN.out.2.1 (by have:=HN.out.2.2;omega))
     clear hI' hS'
     go_wp2_with fail
     refine(iE HS2.out HL.out).mono ?_
     rintro e w7 ⟨rfl,hS,hT⟩
     have H7:=hid hS
     clear hS hT
     go_wp2_with fail
     go_roundw
     case rel=>exact⟨k+1,by omega,by go_num,D',H7.out,HI2.out.mono (by omega)⟩
     case measure=>simp[intOf];omega
  ·clear hS hI
   go_wp2_with fail
   refine(begun16_any _).mono ?_
   rintro e w9 ⟨rfl,hb⟩
   have HB9:=hid (below_step HBe.out hb)
   clear hb
   go_wp2_with fail
   go_ret
   exact⟨rfl,HB9.out⟩
set_option maxHeartbeats 2000000 in
theorem vF(N V cr ck:Int)(a:Option Addr)(cap len:Nat)(tb:Bool)(w:World)(h:N<1∨40<N∨V<16∨18<V∨120<(len:Int)):
  Calls Tryz.prog 4 #[.agg #[.int .i64 N,.int .i64 V,.int .i64 cr,.int .i64 ck],.slice a len cap,.bool tb] w fun e w'=>e=.returned (.bool true)∧Below w.heap.size w w':=by
 by_cases g0:N<1
 ·clear h
  go_enter Tryz.func4,Tryz.ntmps4
  go_wp2_with fail
  refine(begun16_any _).mono ?_
  rintro e w9 ⟨rfl,hb⟩
  have HB9:=hid (below_step (below_new w (.cells #[.int .i64 N,.int .i64 V,.int .i64 cr,.int .i64 ck] 23)) hb)
  clear hb
  go_wp2_with fail
  go_ret
  exact⟨rfl,HB9.out⟩
 ·skip
  by_cases g1:40<N
  ·clear h
   go_enter Tryz.func4,Tryz.ntmps4
   go_wp2_with fail
   refine(begun16_any _).mono ?_
   rintro e w9 ⟨rfl,hb⟩
   have HB9:=hid (below_step (below_new w (.cells #[.int .i64 N,.int .i64 V,.int .i64 cr,.int .i64 ck] 23)) hb)
   clear hb
   go_wp2_with fail
   go_ret
   exact⟨rfl,HB9.out⟩
  ·skip
   by_cases g2:V<16
   ·clear h
    go_enter Tryz.func4,Tryz.ntmps4
    go_wp2_with fail
    refine(begun16_any _).mono ?_
    rintro e w9 ⟨rfl,hb⟩
    have HB9:=hid (below_step (below_new w (.cells #[.int .i64 N,.int .i64 V,.int .i64 cr,.int .i64 ck] 23)) hb)
    clear hb
    go_wp2_with fail
    go_ret
    exact⟨rfl,HB9.out⟩
   ·skip
    by_cases g3:18<V
    ·clear h
     go_enter Tryz.func4,Tryz.ntmps4
     go_wp2_with fail
     refine(begun16_any _).mono ?_
     rintro e w9 ⟨rfl,hb⟩
     have HB9:=hid (below_step (below_new w (.cells #[.int .i64 N,.int .i64 V,.int .i64 cr,.int .i64 ck] 23)) hb)
     clear hb
     go_wp2_with fail
     go_ret
     exact⟨rfl,HB9.out⟩
    ·skip
     have g4:120<(len:Int):=by omega
     clear h
     go_enter Tryz.func4,Tryz.ntmps4
     go_wp2_with fail
     refine(begun16_any _).mono ?_
     rintro e w9 ⟨rfl,hb⟩
     have HB9:=hid (below_step (below_new w (.cells #[.int .i64 N,.int .i64 V,.int .i64 cr,.int .i64 ck] 23)) hb)
     clear hb
     go_wp2_with fail
     go_ret
     exact⟨rfl,HB9.out⟩
theorem vD(N V cr ck:Int)(a:Option Addr)(cap:Nat)(rs:List (List Fld))(tb:Bool)(w:World)(hrs:Recs w a [.int .u8,.int .i64,.int .i64,.int .i64,.int .i64,.int .i64] rs):
  Calls Tryz.prog 4 #[.agg #[.int .i64 N,.int .i64 V,.int .i64 cr,.int .i64 ck],.slice a rs.length cap,.bool tb] w fun e w'=>e=.returned (.bool true)∧Below w.heap.size w w':=by
 by_cases h:N<1∨40<N∨V<16∨18<V∨120<(rs.length:Int)
 ·exact vF N V cr ck a cap _ tb w h
 ·have:=vE N.toNat V.toNat cr ck a cap rs tb w (by omega) (by omega) (by omega) (by omega) (by omega) hrs
  rw[show(N.toNat:Int)=N by omega,show(V.toNat:Int)=V by omega] at this
  exact this
end Go.Proofs.YtbhhfnlkpieebaaGreat.Pk
