/-
  Texts laid together: FloodAlb, TallyCntF, FloodFin, ReapW, RefR, FloodLaw, ReapDo, ReapLaw, LinkAct, LinkAct2, LinkActP, LinkPlF.
-/
import Derived.Test.YtjmifnljckmimaaGreatLinkPlEtc
import Derived.Test.YtjmifnljckmimaaGreatGravGrownEtc
import Derived.Test.YtjmifnljckmimaaGreatRefG3Etc
import Derived.Test.YtjmifnljckmimaaGreatLinkDoEtc
import Derived.Test.YtjmifnljckmimaaGreatObjFn4Etc
import Derived.Test.YtjmifnljckmimaaGreatTintActFEtc
import Derived.Test.YtjmifnljckmimaaGreatRefG7Etc
import Derived.Deep.RegionHeld3
import Derived.Test.YtjmifnljckmimaaGreatRecsEtc
namespace Go.Proofs.YtjmifnljckmimaaGreat.Pk
open Lib (hid)
open Go.RowKit
set_option linter.unusedVariables false
set_option linter.unusedSimpArgs false
set_option maxRecDepth 100000
def Out(hold:Nat→Nat)(D:Wd):Prop:=∀h:Nat,(∀t,t∈D.live→t.h≠h)→hold h=0
section
variable {D D':Wd} {t u:Th} {hold:Nat→Nat} {l fl:List Int}
end
def WW(D:Wd):Prop:=∀t,t∈D.ts→t.ended=false∧(t.mr.dead=true→t.mr.leaves=(t.lv.length:Int))
structure Qz (L:List Int) (D:Wd):Prop where
 san:San D
 nd:(D.ts.map Th.h).Nodup
 refs:D.yX=L
 dy:pG D
 fl:WW D
section
variable {L:List Int} {D D':Wd} {t:Th} {w wr:World} {p:Pl} {N k:Nat}
theorem Qz.len(F:Qz L D)(hw:D.w=16):bS (fun t=>t.pt.length) D.ts≤15*bS tN D.ts:=sw 15 (fun t ht=>by
 have hm:=(gM.1 ht).1
 have hg:=(F.san.ok t ht).uz
 have ho:tN t=1+t.lv.length:=by
  unfold tN
  split
  ·rename_i hd
   rw[(F.fl t hm).2 hd]
   simp
  ·rfl
 rw[hw] at hg
 rw[ho]
 by_cases h:t.pt.length+t.dt.length≤16-8
 ·omega
 ·have:=(hg.big h).2
  omega)
theorem Qz.find(F:Qz L D){j:Nat}(hj:j<L.length):∃t,D.find (nth L j)=some t:=by
 have hr:=F.refs
 subst hr
 have hj2:j<D.ts.length:=by unfold Wd.yX at hj;simpa using hj
 have e:nth D.yX j=(D.ts[j].h:Int)+1:=by
  unfold nth Wd.yX
  rw[List.getD_eq_getElem?_getD]
  simp[hj2]
 have h:=Km (l:=D.ts) F.nd (List.getElem_mem hj2)
 rw[(F.fl _ (List.getElem_mem hj2)).1] at h
 rw[e]
 exact⟨_,h⟩
end
def UR(t:Th):Nat × List Int × Bool × Int:=(t.h,t.pt,t.mr.dead,t.mr.refs)
def Pt(D D':Wd):Prop:=∀q,(D'.find q).map UR=(D.find q).map UR
structure BK (m:Int→Prop) (D:Wd):Prop where
 col:∀x t,D.find x=some t→t.mr.color=D.parity→m x
 ring:∀b,b∈D.ring→m ((b:Int)+1)
 scan:D.scan≠0→m D.scan
section
variable {D D' D2:Wd} {t u v:Th} {r x y q:Int} {hold:Nat→Nat} {l fl:List Int} {m:Int→Prop} {N:Nat}
theorem Pt.trans(h:Pt D D')(k:Pt D' D2):Pt D D2:=fun q=>(k q).trans (h q)
theorem Pt.ts(h:D'.ts=D.ts):Pt D D':=fun q=>by unfold Wd.find;rw[h]
theorem Pt.mark(D:Wd)(r:Int){f:cz→cz}(h1:∀m,(f m).dead=m.dead)(h2:∀m,(f m).refs=m.refs):Pt D (D.mark r f):=fun q=>by
 rw[bG]
 cases D.find q with
 |none=>rfl
 |some t=>
  simp only[Option.map_some]
  split
  ·unfold UR
   simp only[h1,h2]
  ·rfl
theorem Pt.touch(D:Wd)(r:Int):Pt D (D.touch r):=by
 rcases jJ (D:=D) r with h|h
 ·exact Pt.ts h
 ·exact(Pt.mark D r (f:=fun m=>{m with color:=D.parity}) (fun _=>rfl) (fun _=>rfl)).trans (Pt.ts h)
theorem Pt.some(h:Pt D D')(hf:D.find q=some t):∃t',D'.find q=some t'∧t'.h=t.h∧t'.pt=t.pt∧t'.mr.dead=t.mr.dead∧t'.mr.refs=t.mr.refs:=by
 have h1:=h q
 rw[hf] at h1
 cases hq:D'.find q with
 |none=>rw[hq] at h1;cases h1
 |some t'=>
  rw[hq] at h1
  have h2:UR t'=UR t:=Option.some.inj h1
  unfold UR at h2
  injection h2 with e1 h2
  injection h2 with e2 h2
  injection h2 with e3 e4
  exact⟨t',rfl,e1,e2,e3,e4⟩
theorem QI(hf:D.find x=some v)(ha:v.at r=true):x=r:=by
 have:=(ax hf).2
 unfold Th.at at ha
 simp at ha
 omega
theorem BK.touch(B:BK m D)(hr:∀t,D.find r=some t→m r):BK m (D.touch r):=by
 cases ht:D.aU r with
 |false=>rw[show D.touch r=D by unfold Wd.touch;rw[ht];rfl];exact B
 |true=>
  cases hf:D.find r with
  |none=>unfold Wd.aU at ht;rw[hf] at ht;cases ht
  |some t=>
   have hm:=hr t hf
   have er:=(ax hf).2
   have e:D.touch r={D.cO r with ring:=if hasB (ints D.ring) (r-1) then D.ring else D.ring++[(r-1).toNat]}:=by unfold Wd.touch;rw[ht];rfl
   rw[e]
   refine⟨fun x u hu hc=> ?_,fun b hb=> ?_,B.scan⟩
   ·have hu:(D.mark r (fun m=>{m with color:=D.parity})).find x=some u:=hu
    by_cases hxr:x=r
    ·rw[hxr]
     exact hm
    ·rw[bG] at hu
     cases hx:D.find x with
     |none=>rw[hx] at hu;cases hu
     |some v=>
      rw[hx] at hu
      simp only[Option.map_some] at hu
      rw[if_neg (fun ha=>hxr (QI hx ha))] at hu
      cases hu
      exact B.col x _ hx hc
   ·have hb:b∈(if hasB (ints D.ring) (r-1) then D.ring else D.ring++[(r-1).toNat]):=hb
    split at hb
    ·exact B.ring b hb
    ·rw[List.mem_append,List.mem_singleton] at hb
     rcases hb with hb|rfl
     ·exact B.ring b hb
     ·rw[show(((r-1).toNat:Nat):Int)+1=r by omega]
      exact hm
structure TQ (N:Nat) (hold:Nat→Nat) (D:Wd):Prop where
 ci:∃s h f,CI N s h f D
 fm:FM hold D
 nam:Br hold D
 out:Out hold D
 col:∀t,t∈D.ts→t.mr.color=0
 par:D.parity=1
 ring:D.ring=[]
 scan:D.scan=0
end
section
variable {D D':Wd} {t u:Th} {r x y:Int} {hold:Nat→Nat} {L:List Int} {N k:Nat}
end
def Wd.rW(D:Wd)(r:Int)(i:Nat)(x:Int):Wd:=if(D.ay r i 0).cnt x=0 then D.ay r i 0 else((D.ay r i 0).down x).inter x
def Wd.reapB(D:Wd):Bool:=decide (D.phase=3)&&decide (D.cursor<(D.n:Int))
def Wd.CG(D:Wd):Option Th→Wd
 |none=>D.move (D.cursor+1) 0
 |some t=>if t.mr.dead=true∨t.mr.color=D.parity then D.move (D.cursor+1) 0
  else if D.field<(t.pt.length:Int) then(D.rW (D.cursor+1) D.field.toNat (nth t.pt D.field.toNat)).move D.cursor (D.field+1)
  else(D.cO (D.cursor+1)).move (D.cursor+1) 0
def Wd.reap(D:Wd):Wd:=if D.reapB then D.CG (D.find (D.cursor+1)) else D
section
variable {D D':Wd} {t u:Th} {r x y:Int} {hold:Nat→Nat} {k i:Nat} {c:Cf}
theorem qP(h:D.reapB=false):D.reap=D:=by unfold Wd.reap;rw[h];rfl
theorem reap_no(h:D.phase≠3):D.reapB=false:=by unfold Wd.reapB;rw[decide_eq_false h];rfl
theorem Ik(h:D.phase=3)(r:Int)(i:Nat)(x:Int):D.rW r i x=D.drain r i x:=by
 have hl:(D.ay r i 0).aI x=D.ay r i 0:=by
  unfold Wd.aI
  have:(D.ay r i 0).lighter x=false:=by
   unfold Wd.lighter
   have e:(D.ay r i 0).phase=3:=h
   rw[e]
   rfl
  rw[this]
  rfl
 unfold Wd.rW Wd.drain
 rw[hl,ite_self]
 rfl
theorem yg{P:Wd→Prop}(hF:0≤D.field)(h0:P D)(hn:∀D (x y:Int),P D→P (D.move x y))(hp:∀r,P (D.cO r))(he:∀r t i,D.find r=some t→t.mr.dead=false→i<t.pt.length→P (D.drain r i (nth t.pt i))):P D.reap:=by
 unfold Wd.reap
 cases hb:D.reapB with
 |false=>exact h0
 |true=>
  have h3:D.phase=3:=by
   unfold Wd.reapB at hb
   simp at hb
   exact hb.1
  rw[if_pos rfl]
  unfold Wd.CG
  split
  ·exact hn _ _ _ h0
  ·rename_i t hf
   split
   ·exact hn _ _ _ h0
   ·rename_i hd
    split
    ·rename_i hff
     rw[Ik h3]
     exact hn _ _ _ (he _ t _ hf (by cases h:t.mr.dead;rfl;exact absurd (.inl h) hd) (by omega))
    ·exact hn _ _ _ (hp _)
theorem Br.cO(N:Br hold D)(S:San D)(r:Int):Br hold (D.cO r):=N.mark S r (f:=fun m=>{m with color:=D.parity}) (fun _=>rfl) (fun _=>rfl)
theorem San.reap(S:San D)(hF:0≤D.field):San D.reap:=yg hF S (fun D x y S=>S.move x y) (fun r=>S.cO r) (fun r t i hf _ _=>S.drain hf i _)
theorem gZ.reap(h:gZ k D)(hF:0≤D.field):gZ k D.reap:=yg hF h (fun D x y h=>h.move x y) (fun r=>h.keep r (fun m=>{m with color:=D.parity}) (fun _=>Int.le_refl _) (fun _=>Int.le_refl _)) (fun r t i _ _ _=>h.drain r i _)
theorem RJ(hF:0≤D.field):D.reap.ts.map Th.h=D.ts.map Th.h:=yg (P:=fun E=>E.ts.map Th.h=D.ts.map Th.h) hF rfl (fun D x y h=>h) (fun r=>gI r _) (fun r t i _ _ _=>El r i _)
theorem bz.reap(I:bz c k D)(hF:0≤D.field):bz c k D.reap:=⟨I.san.reap hF,I.bd.reap hF,by rw[RJ hF];exact I.hd⟩
end
section
variable {w w':World} {lo:Nat} {lab:Nat→Nat} {a:WA} {D D':Wd} {i:Nat} {t t' u:Th} {x:TA}
theorem Dz(h:az w lo lab a D)(hp:D.phase≠3):Calls Tryz.prog 13 #[.pointer (some ⟨a.q,0,none⟩)] w (dW w lo a.q D (.bool false)):=by
 have c3:=h.c3
 have pb:(D.phase !=3)=true:=by rw[bne_iff_ne];exact hp
 have H:=hid h
 clear h hp
 go_enter Tryz.func13,Tryz.ntmps13
 go_wp2_with fail
 go_quiet (fail)
 go_wp2_with fail
 go_ret
 exact⟨rfl,(H.out.dF ⟨_,rfl⟩).nE rfl,Touch.of_below (dK.new ⟨_,rfl⟩)⟩
theorem JR(h:az w lo lab a D)(hp:D.phase=3)(hk:(D.n:Int)≤D.cursor):Calls Tryz.prog 13 #[.pointer (some ⟨a.q,0,none⟩)] w (dW w lo a.q D (.bool false)):=by
 have c3:=h.c3
 rw[hp] at c3
 have c4:=h.c4
 have c0:=h.c0
 have c1:=h.h.c0
 have H:=hid h
 clear h hp
 go_enter Tryz.func13,Tryz.ntmps13
 go_wp2_with fail
 go_quiet (fail)
 go_wp2_with fail
 go_ret
 exact⟨rfl,(H.out.dF ⟨_,rfl⟩).nE rfl,Touch.of_below (dK.new ⟨_,rfl⟩)⟩
theorem Le(D:Wd)(x k f:Int):(D.move k f).bU x=(D.bU x).move k f:=by
 unfold Wd.bU
 have e:(D.move k f).find x=D.find x:=rfl
 rw[e]
 split
 ·rfl
 ·split<;>rfl
set_option maxHeartbeats 1000000 in
theorem He(h:az w lo lab a D)(hp:D.phase=3)(hk0:0≤D.cursor)(hk:D.cursor<(D.n:Int))(hkb:D.cursor≤4294967295)(hf:D.find (D.cursor+1)=none):Calls Tryz.prog 13 #[.pointer (some ⟨a.q,0,none⟩)] w (dW w lo a.q (D.move (D.cursor+1) 0) (.bool true)):=by
 have c3:=h.c3
 rw[hp] at c3
 have c4:=h.c4
 have c0:=h.c0
 have c1:=h.h.c0
 have hw1:IntKind.i64.wrap (D.cursor+1)=D.cursor+1:=IntWalk.i64_in _ (by omega)
 have hkn:¬(D.n:Int)≤D.cursor:=by omega
 have HOf:=hid (fun w' (h':az w' lo lab a D)=>gY h' hf)
 have H:=hid h
 clear h hp hk0 hk hkb hf
 go_enter Tryz.func13,Tryz.ntmps13
 go_wp2_with fail
 go_quiet (fail)
 go_wp2_with fail
 generalize hwd:World.drewN _ _=w1 at*
 have H1:Hid (az w1 lo lab a D):=hid (by first|exact hwd▸H.out.dF ⟨_,rfl⟩|(rw[←hwd];exact H.out.dF ⟨_,rfl⟩))
 have T1:Hid (Touch (fun b=>lo≤b) w w1):=hid (by rw[←hwd];exact Touch.of_below (dK.new ⟨_,rfl⟩))
 clear hwd c0 c1 c3 c4
 refine(HOf.out _ H1.out).mono ?_
 rintro e w2 ⟨rfl,rfl⟩
 have c0:=H1.out.c0
 have c2:=H1.out.c2
 have c4:=H1.out.c4
 have c5:=H1.out.c5
 have f4:=H1.out.wb.free 4
 have f5:=H1.out.wb.free 5
 go_wp2_with fail
 go_quiet (fail)
 have HQ:=hid (fun m=>(H1.out.dF (w':=w1.drewN m) ⟨m,rfl⟩).move (D.cursor+1) 0)
 have HTQ:=hid (fun m=>Touch.move (T1.out.trans (Touch.of_below (dK.new (w:=w1) (w':=w1.drewN m) ⟨m,rfl⟩))) H1.out.lq.1 (D.cursor+1) 0)
 go_wp2_with fail
 go_ret
 exact⟨rfl,(HQ.out _).nE rfl,HTQ.out _⟩
set_option maxHeartbeats 1000000 in
theorem GY(h:az w lo lab a D)(hp:D.phase=3)(hk0:0≤D.cursor)(hk:D.cursor<(D.n:Int))(hkb:D.cursor≤4294967295)(hf:D.find (D.cursor+1)=some t)(hd:t.mr.dead=true):Calls Tryz.prog 13 #[.pointer (some ⟨a.q,0,none⟩)] w (dW w lo a.q (D.move (D.cursor+1) 0) (.bool true)):=by
 have c3:=h.c3
 rw[hp] at c3
 have c4:=h.c4
 have c0:=h.c0
 have c1:=h.h.c0
 have hw1:IntKind.i64.wrap (D.cursor+1)=D.cursor+1:=IntWalk.i64_in _ (by omega)
 have hkn:¬(D.n:Int)≤D.cursor:=by omega
 obtain⟨i,x,hi,ht,hx⟩:=h.found hf
 have HOf:=hid (fun w' (h':az w' lo lab a D)=>aX h' hi hx)
 have HFi:=hid (fun w' (h':az w' lo lab a D)=>aY h' hi hx)
 have HT:=hid ht
 have HX:=hid hx
 have HD:=hid hd
 have H:=hid h
 clear h hp hk0 hk hkb hf hd hi ht hx
 go_enter Tryz.func13,Tryz.ntmps13
 go_wp2_with fail
 go_quiet (fail)
 go_wp2_with fail
 generalize hwd:World.drewN _ _=w1 at*
 have H1:Hid (az w1 lo lab a D):=hid (by first|exact hwd▸H.out.dF ⟨_,rfl⟩|(rw[←hwd];exact H.out.dF ⟨_,rfl⟩))
 have T1:Hid (Touch (fun b=>lo≤b) w w1):=hid (by rw[←hwd];exact Touch.of_below (dK.new ⟨_,rfl⟩))
 clear hwd c0 c1 c3 c4
 refine(HOf.out _ H1.out).mono ?_
 rintro e w2 ⟨rfl,rfl⟩
 have c0:=H1.out.c0
 have c2:=H1.out.c2
 have c4:=H1.out.c4
 have c5:=H1.out.c5
 have f4:=H1.out.wb.free 4
 have f5:=H1.out.wb.free 5
 have m5:=H1.out.m5 HT.out HX.out
 rw[HD.out] at m5
 go_wp2_with fail
 go_quiet (fail)
 have HQ:=hid (fun m=>(H1.out.dF (w':=w1.drewN m) ⟨m,rfl⟩).move (D.cursor+1) 0)
 have HTQ:=hid (fun m=>Touch.move (T1.out.trans (Touch.of_below (dK.new (w:=w1) (w':=w1.drewN m) ⟨m,rfl⟩))) H1.out.lq.1 (D.cursor+1) 0)
 go_wp2_with fail
 go_ret
 exact⟨rfl,(HQ.out _).nE rfl,HTQ.out _⟩
set_option maxHeartbeats 1000000 in
theorem Dy(h:az w lo lab a D)(hp:D.phase=3)(hk0:0≤D.cursor)(hk:D.cursor<(D.n:Int))(hkb:D.cursor≤4294967295)(hf:D.find (D.cursor+1)=some t)(hd:t.mr.dead=false)(hc:t.mr.color=D.parity):Calls Tryz.prog 13 #[.pointer (some ⟨a.q,0,none⟩)] w (dW w lo a.q (D.move (D.cursor+1) 0) (.bool true)):=by
 have c3:=h.c3
 rw[hp] at c3
 have c4:=h.c4
 have c0:=h.c0
 have c1:=h.h.c0
 have hw1:IntKind.i64.wrap (D.cursor+1)=D.cursor+1:=IntWalk.i64_in _ (by omega)
 have hkn:¬(D.n:Int)≤D.cursor:=by omega
 obtain⟨i,x,hi,ht,hx⟩:=h.found hf
 have HOf:=hid (fun w' (h':az w' lo lab a D)=>aX h' hi hx)
 have HFi:=hid (fun w' (h':az w' lo lab a D)=>aY h' hi hx)
 have HT:=hid ht
 have HX:=hid hx
 have HD:=hid hd
 have HC:=hid hc
 have H:=hid h
 clear h hp hk0 hk hkb hf hd hc hi ht hx
 go_enter Tryz.func13,Tryz.ntmps13
 go_wp2_with fail
 go_quiet (fail)
 go_wp2_with fail
 generalize hwd:World.drewN _ _=w1 at*
 have H1:Hid (az w1 lo lab a D):=hid (by first|exact hwd▸H.out.dF ⟨_,rfl⟩|(rw[←hwd];exact H.out.dF ⟨_,rfl⟩))
 have T1:Hid (Touch (fun b=>lo≤b) w w1):=hid (by rw[←hwd];exact Touch.of_below (dK.new ⟨_,rfl⟩))
 clear hwd c0 c1 c3 c4
 refine(HOf.out _ H1.out).mono ?_
 rintro e w2 ⟨rfl,rfl⟩
 have c0:=H1.out.c0
 have c2:=H1.out.c2
 have c4:=H1.out.c4
 have c5:=H1.out.c5
 have f4:=H1.out.wb.free 4
 have f5:=H1.out.wb.free 5
 have m5:=H1.out.m5 HT.out HX.out
 rw[HD.out] at m5
 have m1:=H1.out.m1 HT.out HX.out
 rw[HC.out] at m1
 go_wp2_with fail
 go_quiet (fail)
 have HQ:=hid (fun m=>(H1.out.dF (w':=w1.drewN m) ⟨m,rfl⟩).move (D.cursor+1) 0)
 have HTQ:=hid (fun m=>Touch.move (T1.out.trans (Touch.of_below (dK.new (w:=w1) (w':=w1.drewN m) ⟨m,rfl⟩))) H1.out.lq.1 (D.cursor+1) 0)
 go_wp2_with fail
 go_ret
 exact⟨rfl,(HQ.out _).nE rfl,HTQ.out _⟩
set_option maxHeartbeats 1000000 in
theorem GZ(h:az w lo lab a D)(hp:D.phase=3)(hk0:0≤D.cursor)(hk:D.cursor<(D.n:Int))(hkb:D.cursor≤4294967295)(hf:D.find (D.cursor+1)=some t)(hd:t.mr.dead=false)(hc:t.mr.color≠D.parity)(hff:¬D.field<(t.pt.length:Int)):Calls Tryz.prog 13 #[.pointer (some ⟨a.q,0,none⟩)] w (dW w lo a.q ((D.cO (D.cursor+1)).move (D.cursor+1) 0) (.bool true)):=by
 have c3:=h.c3
 rw[hp] at c3
 have c4:=h.c4
 have c0:=h.c0
 have c1:=h.h.c0
 have hw1:IntKind.i64.wrap (D.cursor+1)=D.cursor+1:=IntWalk.i64_in _ (by omega)
 have hkn:¬(D.n:Int)≤D.cursor:=by omega
 obtain⟨i,x,hi,ht,hx⟩:=h.found hf
 have HOf:=hid (fun w' (h':az w' lo lab a D)=>aX h' hi hx)
 have HFi:=hid (fun w' (h':az w' lo lab a D)=>aY h' hi hx)
 have HT:=hid ht
 have HX:=hid hx
 have HD:=hid hd
 have hcb:(t.mr.color==D.parity)=false:=by rw[beq_eq_false_iff_ne];exact hc
 have hfl:(t.pt.length:Int)≤D.field:=by omega
 have H:=hid h
 clear h hp hk0 hk hkb hf hd hc hff hi ht hx
 go_enter Tryz.func13,Tryz.ntmps13
 go_wp2_with fail
 go_quiet (fail)
 go_wp2_with fail
 generalize hwd:World.drewN _ _=w1 at*
 have H1:Hid (az w1 lo lab a D):=hid (by first|exact hwd▸H.out.dF ⟨_,rfl⟩|(rw[←hwd];exact H.out.dF ⟨_,rfl⟩))
 have T1:Hid (Touch (fun b=>lo≤b) w w1):=hid (by rw[←hwd];exact Touch.of_below (dK.new ⟨_,rfl⟩))
 clear hwd c0 c1 c3 c4
 refine(HOf.out _ H1.out).mono ?_
 rintro e w2 ⟨rfl,rfl⟩
 have c0:=H1.out.c0
 have c2:=H1.out.c2
 have c4:=H1.out.c4
 have c5:=H1.out.c5
 have f4:=H1.out.wb.free 4
 have f5:=H1.out.wb.free 5
 have m5:=H1.out.m5 HT.out HX.out
 rw[HD.out] at m5
 have m1:=H1.out.m1 HT.out HX.out
 go_wp2_with fail
 go_quiet (fail)
 go_wp2_with fail
 generalize hwd:World.drewN _ _=w3 at*
 have H3:Hid (az w3 lo lab a D):=hid (by first|exact hwd▸H1.out.dF ⟨_,rfl⟩|(rw[←hwd];exact H1.out.dF ⟨_,rfl⟩))
 have T3:Hid (Touch (fun b=>lo≤b) w w3):=hid (by rw[←hwd];exact T1.out.trans (Touch.of_below (dK.new ⟨_,rfl⟩)))
 clear hwd c0 c2 c4 c5 f4 f5 m1 m5
 refine(HFi.out _ H3.out).mono ?_
 rintro e w4 ⟨rfl,rfl⟩
 have c4:=H3.out.c4
 have c5:=H3.out.c5
 have d2:=(H3.out.h.th i t x HT.out HX.out).c2
 go_wp2_with fail
 go_quiet (fail)
 go_wp2_with fail
 generalize hwd:World.drewN _ _=w5 at*
 have H5:Hid (az w5 lo lab a D):=hid (by first|exact hwd▸H3.out.dF ⟨_,rfl⟩|(rw[←hwd];exact H3.out.dF ⟨_,rfl⟩))
 have T5:Hid (Touch (fun b=>lo≤b) w w5):=hid (by rw[←hwd];exact T3.out.trans (Touch.of_below (dK.new ⟨_,rfl⟩)))
 clear hwd c4 c5 d2
 refine(Sy H5.out (D.cursor+1)).mono ?_
 rintro e w6 ⟨rfl,⟨lab6,a6,ea6,k6⟩,k7⟩
 have H6:=hid k6
 have EA:=hid ea6
 have T6:=hid (T5.out.trans k7)
 rw[←EA.out]
 clear k6 k7 ea6
 have c4:w6.cell? ⟨a6.q,4,none⟩=some (.int .i64 D.cursor):=H6.out.c4
 have c5:w6.cell? ⟨a6.q,5,none⟩=some (.int .i64 D.field):=H6.out.c5
 have f4:=H6.out.wb.free 4
 have f5:=H6.out.wb.free 5
 have HQ:=hid (H6.out.move (D.cursor+1) 0)
 have HTQ:=hid (Touch.move T6.out H6.out.lq.1 (D.cursor+1) 0)
 go_wp2_with fail
 go_ret
 exact⟨rfl,HQ.out.nE EA.out,HTQ.out⟩
set_option maxHeartbeats 1000000 in
theorem JV(h:az w lo lab a D)(hp:D.phase=3)(hk0:0≤D.cursor)(hk:D.cursor<(D.n:Int))(hkb:D.cursor≤4294967295)(hf:D.find (D.cursor+1)=some t)(hd:t.mr.dead=false)(hc:t.mr.color≠D.parity){j:Nat}(hj:D.field=(j:Int))(hff:j<t.pt.length)(hjb:j≤1000000)(hz:(D.ay (D.cursor+1) j 0).cnt (nth t.pt j)=0):Calls Tryz.prog 13 #[.pointer (some ⟨a.q,0,none⟩)] w (dW w lo a.q ((D.rW (D.cursor+1) j (nth t.pt j)).move D.cursor ((j:Int)+1)) (.bool true)):=by
 have c3:=h.c3
 rw[hp] at c3
 have c4:=h.c4
 have c0:=h.c0
 have c1:=h.h.c0
 have hw1:IntKind.i64.wrap (D.cursor+1)=D.cursor+1:=IntWalk.i64_in _ (by omega)
 have hkn:¬(D.n:Int)≤D.cursor:=by omega
 obtain⟨i,x,hi,ht,hx⟩:=h.found hf
 have HOf:=hid (fun w' (h':az w' lo lab a D)=>aX h' hi hx)
 have HFi:=hid (fun w' (h':az w' lo lab a D)=>aY h' hi hx)
 have HT:=hid ht
 have HX:=hid hx
 have HD:=hid hd
 have hcb:(t.mr.color==D.parity)=false:=by rw[beq_eq_false_iff_ne];exact hc
 have hnl:¬(t.pt.length:Int)≤D.field:=by omega
 have HJ:Hid (D.field=(j:Int)∧j<t.pt.length):=hid ⟨hj,hff⟩
 have HI:=hid hi
 have hw2:IntKind.i64.wrap ((j:Int)+1)=(j:Int)+1:=IntWalk.i64_in _ (by omega)
 have HZ:=hid hz
 have HQ:Hid ((D.ay (D.cursor+1) j 0).move D.cursor ((j:Int)+1)=(D.rW (D.cursor+1) j (nth t.pt j)).move D.cursor ((j:Int)+1)):=hid (by unfold Wd.rW;rw[if_pos hz])
 have H:=hid h
 clear h hp hk0 hk hkb hf hd hc hj hff hjb hz hi ht hx
 go_enter Tryz.func13,Tryz.ntmps13
 go_wp2_with fail
 go_quiet (fail)
 go_wp2_with fail
 generalize hwd:World.drewN _ _=w1 at*
 have H1:Hid (az w1 lo lab a D):=hid (by first|exact hwd▸H.out.dF ⟨_,rfl⟩|(rw[←hwd];exact H.out.dF ⟨_,rfl⟩))
 have T1:Hid (Touch (fun b=>lo≤b) w w1):=hid (by rw[←hwd];exact Touch.of_below (dK.new ⟨_,rfl⟩))
 clear hwd c0 c1 c3 c4
 refine(HOf.out _ H1.out).mono ?_
 rintro e w2 ⟨rfl,rfl⟩
 have c0:=H1.out.c0
 have c2:=H1.out.c2
 have c4:=H1.out.c4
 have c5:=H1.out.c5
 have f4:=H1.out.wb.free 4
 have f5:=H1.out.wb.free 5
 have m5:=H1.out.m5 HT.out HX.out
 rw[HD.out] at m5
 have m1:=H1.out.m1 HT.out HX.out
 go_wp2_with fail
 go_quiet (fail)
 go_wp2_with fail
 generalize hwd:World.drewN _ _=w3 at*
 have H3:Hid (az w3 lo lab a D):=hid (by first|exact hwd▸H1.out.dF ⟨_,rfl⟩|(rw[←hwd];exact H1.out.dF ⟨_,rfl⟩))
 have T3:Hid (Touch (fun b=>lo≤b) w w3):=hid (by rw[←hwd];exact T1.out.trans (Touch.of_below (dK.new ⟨_,rfl⟩)))
 clear hwd c0 c2 c4 c5 f4 f5 m1 m5
 refine(HFi.out _ H3.out).mono ?_
 rintro e w4 ⟨rfl,rfl⟩
 have c4:=H3.out.c4
 have c5:=H3.out.c5
 have d2:=(H3.out.h.th i t x HT.out HX.out).c2
 go_wp2_with fail
 go_quiet (fail)
 go_wp2_with fail
 generalize hwd:World.drewN _ _=w5 at*
 have H5:Hid (az w5 lo lab a D):=hid (by first|exact hwd▸H3.out.dF ⟨_,rfl⟩|(rw[←hwd];exact H3.out.dF ⟨_,rfl⟩))
 have T5:Hid (Touch (fun b=>lo≤b) w w5):=hid (by rw[←hwd];exact T3.out.trans (Touch.of_below (dK.new ⟨_,rfl⟩)))
 clear hwd c4 c5 d2
 obtain⟨g,hpa,hg,gc,gf,glo,gs⟩:=H5.out.jG HT.out HX.out HJ.out.2
 have d2:=(H5.out.h.th i t x HT.out HX.out).c2
 rw[hpa] at d2
 have c5:=H5.out.c5
 rw[HJ.out.1] at c5
 have hj2:=HJ.out.2
 have HPa:=hid hpa
 clear hpa gs
 go_quiet (fail)
 go_wp2_with fail
 generalize hwd:World.drewN _ _=w6 at*
 have H6:Hid (az w6 lo lab a D):=hid (by first|exact hwd▸H5.out.dF ⟨_,rfl⟩|(rw[←hwd];exact H5.out.dF ⟨_,rfl⟩))
 have T6:Hid (Touch (fun b=>lo≤b) w w6):=hid (by rw[←hwd];exact T5.out.trans (Touch.of_below (dK.new ⟨_,rfl⟩)))
 clear hwd c5 d2 gc gf hg glo
 obtain⟨g6,hpa,hg,gc,gf,glo,gs⟩:=H6.out.jG HT.out HX.out HJ.out.2
 have eg:g6=g:=by
  have h1:=HPa.out
  rw[hpa] at h1
  injection h1 with h1
  injection h1
 subst eg
 have d2:=(H6.out.h.th i t x HT.out HX.out).c2
 rw[hpa] at d2
 have c5:=H6.out.c5
 rw[HJ.out.1] at c5
 have HK:Hid (az (w6.setCell ⟨g6,j,none⟩ (.int .i64 0)).drew lo lab a (D.ay (D.cursor+1) j 0)):=hid (az.drew (by rw[show D.ay (D.cursor+1) j 0={D with ts:=D.ts.set i {t with pt:=t.pt.set j 0}} from mg HI.out HT.out];exact gs 0))
 have HKT:Hid (Touch (fun b=>lo≤b) w (w6.setCell ⟨g6,j,none⟩ (.int .i64 0)).drew):=hid (T6.out.setCell (p:=⟨g6,j,none⟩) (fun _=>glo) _).drew
 clear gs hpa
 go_region_with (fail)
 all_goals
  generalize hw7:(w6.setCell ⟨g6,j,none⟩ (.int .i64 0)).drew=w7 at*
  have H7:=hid HK.out
  have T7:=hid HKT.out
  clear hw7 c5 d2 gc gf hg
  have c5:w7.cell? ⟨a.q,5,none⟩=some (.int .i64 (j:Int)):=by have:=H7.out.c5;rw[show(D.ay (D.cursor+1) j 0).field=(j:Int) from HJ.out.1] at this;exact this
  have f5:=H7.out.wb.free 5
  have H8:Hid (az (w7.setCell ⟨a.q,5,none⟩ (.int .i64 ((j:Int)+1))) lo lab a ((D.ay (D.cursor+1) j 0).move D.cursor ((j:Int)+1))):=hid (H7.out.fI (D':=(D.ay (D.cursor+1) j 0).move D.cursor ((j:Int)+1)) (k:=5) (u:=.int .i64 ((j:Int)+1)) rfl rfl rfl rfl rfl rfl rfl)
  have T8:=hid (T7.out.setCell (p:=⟨a.q,5,none⟩) (fun _=>H7.out.lq.1) (.int .i64 ((j:Int)+1)))
  have HCn:=hid (gX H8.out (nth t.pt j))
  go_wp2_with fail
  generalize hw8:World.setCell _ _ _=w8 at*
  clear hw8 c5 f5
  refine HCn.out.mono ?_
  rintro e w9 ⟨rfl,rfl⟩
  have hcz:(((D.ay (D.cursor+1) j 0).move D.cursor ((j:Int)+1)).cnt (nth t.pt j))=0:=HZ.out
  rw[hcz]
  go_wp2_with fail
  go_ret
  exact⟨rfl,HQ.out▸H8.out.nE rfl,T8.out⟩
set_option maxHeartbeats 1000000 in
theorem JU(h:az w lo lab a D)(hp:D.phase=3)(hk0:0≤D.cursor)(hk:D.cursor<(D.n:Int))(hkb:D.cursor≤4294967295)(hf:D.find (D.cursor+1)=some t)(hd:t.mr.dead=false)(hc:t.mr.color≠D.parity){j:Nat}(hj:D.field=(j:Int))(hff:j<t.pt.length)(hjb:j≤1000000){n0:Int}(hu:(D.ay (D.cursor+1) j 0).find (nth t.pt j)=some u)(hn:u.mr.refs=n0)(h0:0<n0)(h1:n0≤4294967295)(hk1:n0-1≠0):Calls Tryz.prog 13 #[.pointer (some ⟨a.q,0,none⟩)] w (dW w lo a.q ((D.rW (D.cursor+1) j (nth t.pt j)).move D.cursor ((j:Int)+1)) (.bool true)):=by
 have c3:=h.c3
 rw[hp] at c3
 have c4:=h.c4
 have c0:=h.c0
 have c1:=h.h.c0
 have hw1:IntKind.i64.wrap (D.cursor+1)=D.cursor+1:=IntWalk.i64_in _ (by omega)
 have hkn:¬(D.n:Int)≤D.cursor:=by omega
 obtain⟨i,x,hi,ht,hx⟩:=h.found hf
 have HOf:=hid (fun w' (h':az w' lo lab a D)=>aX h' hi hx)
 have HFi:=hid (fun w' (h':az w' lo lab a D)=>aY h' hi hx)
 have HT:=hid ht
 have HX:=hid hx
 have HD:=hid hd
 have hcb:(t.mr.color==D.parity)=false:=by rw[beq_eq_false_iff_ne];exact hc
 have hnl:¬(t.pt.length:Int)≤D.field:=by omega
 have HJ:Hid (D.field=(j:Int)∧j<t.pt.length):=hid ⟨hj,hff⟩
 have HI:=hid hi
 have hw2:IntKind.i64.wrap ((j:Int)+1)=(j:Int)+1:=IntWalk.i64_in _ (by omega)
 have HU:Hid (((D.ay (D.cursor+1) j 0).move D.cursor ((j:Int)+1)).find (nth t.pt j)=some u):=hid hu
 have HU2:=hid (And.intro hn (And.intro h0 h1))
 have HNz:=hid h0
 have hcn:(D.ay (D.cursor+1) j 0).cnt (nth t.pt j)=n0:=by unfold Wd.cnt;rw[hu];exact hn
 have HZ:=hid hcn
 have hdn:((D.ay (D.cursor+1) j 0).down (nth t.pt j)).cnt (nth t.pt j)=n0-1:=by unfold Wd.cnt Wd.down;rw[fu _ hu];show u.mr.refs-1=_;rw[hn]
 have HZb:Hid ((n0-1==0)=false):=hid (by rw[beq_eq_false_iff_ne];exact hk1)
 have HQ:Hid (((D.ay (D.cursor+1) j 0).move D.cursor ((j:Int)+1)).down (nth t.pt j)=(D.rW (D.cursor+1) j (nth t.pt j)).move D.cursor ((j:Int)+1)):=hid (by
  unfold Wd.rW
  rw[if_neg (by rw[hcn];omega)]
  unfold Wd.inter
  rw[if_neg (by rw[hdn];exact hk1)]
  rfl)
 have H:=hid h
 clear h hp hk0 hk hkb hf hd hc hj hff hjb hu hn h0 h1 hcn hdn hk1 hi ht hx
 go_enter Tryz.func13,Tryz.ntmps13
 go_wp2_with fail
 go_quiet (fail)
 go_wp2_with fail
 generalize hwd:World.drewN _ _=w1 at*
 have H1:Hid (az w1 lo lab a D):=hid (by first|exact hwd▸H.out.dF ⟨_,rfl⟩|(rw[←hwd];exact H.out.dF ⟨_,rfl⟩))
 have T1:Hid (Touch (fun b=>lo≤b) w w1):=hid (by rw[←hwd];exact Touch.of_below (dK.new ⟨_,rfl⟩))
 clear hwd c0 c1 c3 c4
 refine(HOf.out _ H1.out).mono ?_
 rintro e w2 ⟨rfl,rfl⟩
 have c0:=H1.out.c0
 have c2:=H1.out.c2
 have c4:=H1.out.c4
 have c5:=H1.out.c5
 have f4:=H1.out.wb.free 4
 have f5:=H1.out.wb.free 5
 have m5:=H1.out.m5 HT.out HX.out
 rw[HD.out] at m5
 have m1:=H1.out.m1 HT.out HX.out
 go_wp2_with fail
 go_quiet (fail)
 go_wp2_with fail
 generalize hwd:World.drewN _ _=w3 at*
 have H3:Hid (az w3 lo lab a D):=hid (by first|exact hwd▸H1.out.dF ⟨_,rfl⟩|(rw[←hwd];exact H1.out.dF ⟨_,rfl⟩))
 have T3:Hid (Touch (fun b=>lo≤b) w w3):=hid (by rw[←hwd];exact T1.out.trans (Touch.of_below (dK.new ⟨_,rfl⟩)))
 clear hwd c0 c2 c4 c5 f4 f5 m1 m5
 refine(HFi.out _ H3.out).mono ?_
 rintro e w4 ⟨rfl,rfl⟩
 have c4:=H3.out.c4
 have c5:=H3.out.c5
 have d2:=(H3.out.h.th i t x HT.out HX.out).c2
 go_wp2_with fail
 go_quiet (fail)
 go_wp2_with fail
 generalize hwd:World.drewN _ _=w5 at*
 have H5:Hid (az w5 lo lab a D):=hid (by first|exact hwd▸H3.out.dF ⟨_,rfl⟩|(rw[←hwd];exact H3.out.dF ⟨_,rfl⟩))
 have T5:Hid (Touch (fun b=>lo≤b) w w5):=hid (by rw[←hwd];exact T3.out.trans (Touch.of_below (dK.new ⟨_,rfl⟩)))
 clear hwd c4 c5 d2
 obtain⟨g,hpa,hg,gc,gf,glo,gs⟩:=H5.out.jG HT.out HX.out HJ.out.2
 have d2:=(H5.out.h.th i t x HT.out HX.out).c2
 rw[hpa] at d2
 have c5:=H5.out.c5
 rw[HJ.out.1] at c5
 have hj2:=HJ.out.2
 have HPa:=hid hpa
 clear hpa gs
 go_quiet (fail)
 go_wp2_with fail
 generalize hwd:World.drewN _ _=w6 at*
 have H6:Hid (az w6 lo lab a D):=hid (by first|exact hwd▸H5.out.dF ⟨_,rfl⟩|(rw[←hwd];exact H5.out.dF ⟨_,rfl⟩))
 have T6:Hid (Touch (fun b=>lo≤b) w w6):=hid (by rw[←hwd];exact T5.out.trans (Touch.of_below (dK.new ⟨_,rfl⟩)))
 clear hwd c5 d2 gc gf hg glo
 obtain⟨g6,hpa,hg,gc,gf,glo,gs⟩:=H6.out.jG HT.out HX.out HJ.out.2
 have eg:g6=g:=by
  have h1:=HPa.out
  rw[hpa] at h1
  injection h1 with h1
  injection h1
 subst eg
 have d2:=(H6.out.h.th i t x HT.out HX.out).c2
 rw[hpa] at d2
 have c5:=H6.out.c5
 rw[HJ.out.1] at c5
 have HK:Hid (az (w6.setCell ⟨g6,j,none⟩ (.int .i64 0)).drew lo lab a (D.ay (D.cursor+1) j 0)):=hid (az.drew (by rw[show D.ay (D.cursor+1) j 0={D with ts:=D.ts.set i {t with pt:=t.pt.set j 0}} from mg HI.out HT.out];exact gs 0))
 have HKT:Hid (Touch (fun b=>lo≤b) w (w6.setCell ⟨g6,j,none⟩ (.int .i64 0)).drew):=hid (T6.out.setCell (p:=⟨g6,j,none⟩) (fun _=>glo) _).drew
 clear gs hpa
 go_region_with (fail)
 all_goals
  generalize hw7:(w6.setCell ⟨g6,j,none⟩ (.int .i64 0)).drew=w7 at*
  have H7:=hid HK.out
  have T7:=hid HKT.out
  clear hw7 c5 d2 gc gf hg
  have c5:w7.cell? ⟨a.q,5,none⟩=some (.int .i64 (j:Int)):=by have:=H7.out.c5;rw[show(D.ay (D.cursor+1) j 0).field=(j:Int) from HJ.out.1] at this;exact this
  have f5:=H7.out.wb.free 5
  have H8:Hid (az (w7.setCell ⟨a.q,5,none⟩ (.int .i64 ((j:Int)+1))) lo lab a ((D.ay (D.cursor+1) j 0).move D.cursor ((j:Int)+1))):=hid (H7.out.fI (D':=(D.ay (D.cursor+1) j 0).move D.cursor ((j:Int)+1)) (k:=5) (u:=.int .i64 ((j:Int)+1)) rfl rfl rfl rfl rfl rfl rfl)
  have T8:=hid (T7.out.setCell (p:=⟨a.q,5,none⟩) (fun _=>H7.out.lq.1) (.int .i64 ((j:Int)+1)))
  have HCn:=hid (gX H8.out (nth t.pt j))
  go_wp2_with fail
  generalize hw8:World.setCell _ _ _=w8 at*
  clear hw8 c5 f5
  refine HCn.out.mono ?_
  rintro e w9 ⟨rfl,rfl⟩
  have hcz:(((D.ay (D.cursor+1) j 0).move D.cursor ((j:Int)+1)).cnt (nth t.pt j))=n0:=HZ.out
  rw[hcz]
  have hgt:=HNz.out
  have HDn:=hid (sD H8.out (r:=nth t.pt j) HU.out (by have:=HU2.out;omega) (by have:=HU2.out;omega))
  go_wp2_with fail
  refine HDn.out.mono ?_
  rintro e w10 ⟨rfl,k1,k2⟩
  have H10:=hid k1
  have T10:=hid (T8.out.trans k2)
  clear k1 k2
  rw[HU2.out.1]
  have hzb:=HZb.out
  go_wp2_with fail
  go_ret
  exact⟨rfl,HQ.out▸H10.out.nE rfl,T10.out⟩
set_option maxHeartbeats 1000000 in
theorem JS (h : az w lo lab a D) (hp : D.phase = 3) (hk0 : 0 ≤ D.cursor) (hk : D.cursor < (D.n : Int)) (hkb : D.cursor ≤ 4294967295) (hf : D.find (D.cursor + 1) = some t) (hd : t.mr.dead = false) (hc : t.mr.color ≠ D.parity) {j : Nat} (hj : D.field = (j : Int)) (hff : j < t.pt.length) (hjb : j ≤ 1000000) (hu : (D.ay (D.cursor + 1) j 0).find (nth t.pt j) = some u) (hn : u.mr.refs = 1)  (B : WB D) : Calls Tryz.prog 13 #[.pointer (some ⟨a.q, 0, none⟩)] w (dW w lo a.q ((D.rW (D.cursor + 1) j (nth t.pt j)).move D.cursor ((j : Int) + 1)) (.bool true)) := by
 have c3:=h.c3
 rw[hp] at c3
 have c4:=h.c4
 have c0:=h.c0
 have c1:=h.h.c0
 have hw1:IntKind.i64.wrap (D.cursor+1)=D.cursor+1:=IntWalk.i64_in _ (by omega)
 have hkn:¬(D.n:Int)≤D.cursor:=by omega
 obtain⟨i,x,hi,ht,hx⟩:=h.found hf
 have HOf:=hid (fun w' (h':az w' lo lab a D)=>aX h' hi hx)
 have HFi:=hid (fun w' (h':az w' lo lab a D)=>aY h' hi hx)
 have HT:=hid ht
 have HX:=hid hx
 have HD:=hid hd
 have hcb:(t.mr.color==D.parity)=false:=by rw[beq_eq_false_iff_ne];exact hc
 have hnl:¬(t.pt.length:Int)≤D.field:=by omega
 have HJ:Hid (D.field=(j:Int)∧j<t.pt.length):=hid ⟨hj,hff⟩
 have HI:=hid hi
 have hw2:IntKind.i64.wrap ((j:Int)+1)=(j:Int)+1:=IntWalk.i64_in _ (by omega)
 have HU:Hid (((D.ay (D.cursor+1) j 0).move D.cursor ((j:Int)+1)).find (nth t.pt j)=some u):=hid hu
 have HU2:=hid (And.intro hn (show(0:Int)<1∧(1:Int)≤4294967295 by decide))
 have HNz:=hid (show(0:Int)<1 by decide)
 have hcn:(D.ay (D.cursor+1) j 0).cnt (nth t.pt j)=1:=by unfold Wd.cnt;rw[hu];exact hn
 have HZ:=hid hcn
 have hdn:((D.ay (D.cursor+1) j 0).down (nth t.pt j)).cnt (nth t.pt j)=0:=by unfold Wd.cnt Wd.down;rw[fu _ hu];show u.mr.refs-1=_;rw[hn];rfl
 have HZb:Hid (((1:Int)-1==0)=true):=hid (by decide)
 have HB0:Hid ((((D.ay (D.cursor+1) j 0).move D.cursor ((j:Int)+1)).down (nth t.pt j)).cnt (nth t.pt j)=0):=hid hdn
 have HBd:Hid (D.ring.length≤8000∧D.grave.length≤8000∧0≤D.pending∧D.pending≤4294900000∧∀t',(((D.ay (D.cursor+1) j 0).move D.cursor ((j:Int)+1)).down (nth t.pt j)).find (nth t.pt j)=some t'→t'.lv.length≤1000):=hid ⟨B.rl,B.gl,B.p0,B.p1,fun t' ht'=>(((B.ay (D.cursor+1) j 0).down hu (by rw[hn];decide)).ll _ t' ht')⟩
 have HQ:Hid ((((D.ay (D.cursor+1) j 0).move D.cursor ((j:Int)+1)).down (nth t.pt j)).bU (nth t.pt j)=(D.rW (D.cursor+1) j (nth t.pt j)).move D.cursor ((j:Int)+1)):=hid (by
  unfold Wd.rW
  rw[if_neg (by rw[hcn];decide)]
  unfold Wd.inter
  rw[if_pos hdn]
  exact Le ((D.ay (D.cursor+1) j 0).down (nth t.pt j)) (nth t.pt j) D.cursor ((j:Int)+1))
 have H:=hid h
 clear h hp hk0 hk hkb hf hd hc hj hff hjb hu hn hcn hdn B hi ht hx
 go_enter Tryz.func13,Tryz.ntmps13
 go_wp2_with fail
 go_quiet (fail)
 go_wp2_with fail
 generalize hwd:World.drewN _ _=w1 at*
 have H1:Hid (az w1 lo lab a D):=hid (by first|exact hwd▸H.out.dF ⟨_,rfl⟩|(rw[←hwd];exact H.out.dF ⟨_,rfl⟩))
 have T1:Hid (Touch (fun b=>lo≤b) w w1):=hid (by rw[←hwd];exact Touch.of_below (dK.new ⟨_,rfl⟩))
 clear hwd c0 c1 c3 c4
 refine(HOf.out _ H1.out).mono ?_
 rintro e w2 ⟨rfl,rfl⟩
 have c0:=H1.out.c0
 have c2:=H1.out.c2
 have c4:=H1.out.c4
 have c5:=H1.out.c5
 have f4:=H1.out.wb.free 4
 have f5:=H1.out.wb.free 5
 have m5:=H1.out.m5 HT.out HX.out
 rw[HD.out] at m5
 have m1:=H1.out.m1 HT.out HX.out
 go_wp2_with fail
 go_quiet (fail)
 go_wp2_with fail
 generalize hwd:World.drewN _ _=w3 at*
 have H3:Hid (az w3 lo lab a D):=hid (by first|exact hwd▸H1.out.dF ⟨_,rfl⟩|(rw[←hwd];exact H1.out.dF ⟨_,rfl⟩))
 have T3:Hid (Touch (fun b=>lo≤b) w w3):=hid (by rw[←hwd];exact T1.out.trans (Touch.of_below (dK.new ⟨_,rfl⟩)))
 clear hwd c0 c2 c4 c5 f4 f5 m1 m5
 refine(HFi.out _ H3.out).mono ?_
 rintro e w4 ⟨rfl,rfl⟩
 have c4:=H3.out.c4
 have c5:=H3.out.c5
 have d2:=(H3.out.h.th i t x HT.out HX.out).c2
 go_wp2_with fail
 go_quiet (fail)
 go_wp2_with fail
 generalize hwd:World.drewN _ _=w5 at*
 have H5:Hid (az w5 lo lab a D):=hid (by first|exact hwd▸H3.out.dF ⟨_,rfl⟩|(rw[←hwd];exact H3.out.dF ⟨_,rfl⟩))
 have T5:Hid (Touch (fun b=>lo≤b) w w5):=hid (by rw[←hwd];exact T3.out.trans (Touch.of_below (dK.new ⟨_,rfl⟩)))
 clear hwd c4 c5 d2
 obtain⟨g,hpa,hg,gc,gf,glo,gs⟩:=H5.out.jG HT.out HX.out HJ.out.2
 have d2:=(H5.out.h.th i t x HT.out HX.out).c2
 rw[hpa] at d2
 have c5:=H5.out.c5
 rw[HJ.out.1] at c5
 have hj2:=HJ.out.2
 have HPa:=hid hpa
 clear hpa gs
 go_quiet (fail)
 go_wp2_with fail
 generalize hwd:World.drewN _ _=w6 at*
 have H6:Hid (az w6 lo lab a D):=hid (by first|exact hwd▸H5.out.dF ⟨_,rfl⟩|(rw[←hwd];exact H5.out.dF ⟨_,rfl⟩))
 have T6:Hid (Touch (fun b=>lo≤b) w w6):=hid (by rw[←hwd];exact T5.out.trans (Touch.of_below (dK.new ⟨_,rfl⟩)))
 clear hwd c5 d2 gc gf hg glo
 obtain⟨g6,hpa,hg,gc,gf,glo,gs⟩:=H6.out.jG HT.out HX.out HJ.out.2
 have eg:g6=g:=by
  have h1:=HPa.out
  rw[hpa] at h1
  injection h1 with h1
  injection h1
 subst eg
 have d2:=(H6.out.h.th i t x HT.out HX.out).c2
 rw[hpa] at d2
 have c5:=H6.out.c5
 rw[HJ.out.1] at c5
 have HK:Hid (az (w6.setCell ⟨g6,j,none⟩ (.int .i64 0)).drew lo lab a (D.ay (D.cursor+1) j 0)):=hid (az.drew (by rw[show D.ay (D.cursor+1) j 0={D with ts:=D.ts.set i {t with pt:=t.pt.set j 0}} from mg HI.out HT.out];exact gs 0))
 have HKT:Hid (Touch (fun b=>lo≤b) w (w6.setCell ⟨g6,j,none⟩ (.int .i64 0)).drew):=hid (T6.out.setCell (p:=⟨g6,j,none⟩) (fun _=>glo) _).drew
 clear gs hpa
 go_region_with (fail)
 all_goals
  generalize hw7:(w6.setCell ⟨g6,j,none⟩ (.int .i64 0)).drew=w7 at*
  have H7:=hid HK.out
  have T7:=hid HKT.out
  clear hw7 c5 d2 gc gf hg
  have c5:w7.cell? ⟨a.q,5,none⟩=some (.int .i64 (j:Int)):=by have:=H7.out.c5;rw[show(D.ay (D.cursor+1) j 0).field=(j:Int) from HJ.out.1] at this;exact this
  have f5:=H7.out.wb.free 5
  have H8:Hid (az (w7.setCell ⟨a.q,5,none⟩ (.int .i64 ((j:Int)+1))) lo lab a ((D.ay (D.cursor+1) j 0).move D.cursor ((j:Int)+1))):=hid (H7.out.fI (D':=(D.ay (D.cursor+1) j 0).move D.cursor ((j:Int)+1)) (k:=5) (u:=.int .i64 ((j:Int)+1)) rfl rfl rfl rfl rfl rfl rfl)
  have T8:=hid (T7.out.setCell (p:=⟨a.q,5,none⟩) (fun _=>H7.out.lq.1) (.int .i64 ((j:Int)+1)))
  have HCn:=hid (gX H8.out (nth t.pt j))
  go_wp2_with fail
  generalize hw8:World.setCell _ _ _=w8 at*
  clear hw8 c5 f5
  refine HCn.out.mono ?_
  rintro e w9 ⟨rfl,rfl⟩
  have hcz:(((D.ay (D.cursor+1) j 0).move D.cursor ((j:Int)+1)).cnt (nth t.pt j))=1:=HZ.out
  rw[hcz]
  have hgt:=HNz.out
  have HDn:=hid (sD H8.out (r:=nth t.pt j) HU.out (by have:=HU2.out;omega) (by have:=HU2.out;omega))
  go_wp2_with fail
  refine HDn.out.mono ?_
  rintro e w10 ⟨rfl,k1,k2⟩
  have H10:=hid k1
  have T10:=hid (T8.out.trans k2)
  clear k1 k2
  rw[HU2.out.1]
  have hzb:=HZb.out
  go_wp2_with fail
  refine(Qh H10.out (nth t.pt j) HB0.out HBd.out.1 HBd.out.2.1 HBd.out.2.2.1 HBd.out.2.2.2.1 HBd.out.2.2.2.2).mono ?_
  rintro e w11 ⟨rfl,k1,k2⟩
  have K1:=hid k1
  have K2:=hid (T10.out.trans k2)
  clear k1 k2
  go_wp2_with fail
  go_ret
  exact⟨rfl,HQ.out▸K1.out,K2.out⟩
theorem UI(hw:az w lo lab a D)(B:WB D)(hk0:0≤D.cursor)(hf0:0≤D.field)(hkb:D.cursor≤4294967295)(hl:∀t,t∈D.live→t.pt.length≤1000000):
  Calls Tryz.prog 13 #[.pointer (some ⟨a.q,0,none⟩)] w (dW w lo a.q D.reap (.bool D.reapB)):=by
 by_cases hp:D.phase=3
 ·by_cases hk:D.cursor<(D.n:Int)
  ·have e:D.reapB=true:=by unfold Wd.reapB;simp[hp,hk]
   unfold Wd.reap
   rw[e,if_pos rfl]
   cases hf:D.find (D.cursor+1) with
   |none=>exact He hw hp hk0 hk hkb hf
   |some t=>
    unfold Wd.CG
    simp only
    cases hd:t.mr.dead with
    |true=>rw[if_pos (.inl rfl)];exact GY hw hp hk0 hk hkb hf hd
    |false=>
     by_cases hc:t.mr.color=D.parity
     ·rw[if_pos (.inr hc)];exact Dy hw hp hk0 hk hkb hf hd hc
     ·rw[if_neg (fun h=>h.elim (fun h=>by cases h) hc)]
      by_cases hff:D.field<(t.pt.length:Int)
      ·obtain⟨j,hj⟩:=Int.eq_ofNat_of_zero_le hf0
       have hjl:j<t.pt.length:=by omega
       have hjb:=hl t (ax hf).1
       rw[if_pos hff]
       rw[hj,Int.toNat_natCast]
       by_cases hz:(D.ay (D.cursor+1) j 0).cnt (nth t.pt j)=0
       ·exact JV hw hp hk0 hk hkb hf hd hc hj hjl (by omega) hz
       ·cases hu:(D.ay (D.cursor+1) j 0).find (nth t.pt j) with
        |none=>exact absurd (by unfold Wd.cnt;rw[hu]) hz
        |some u=>
         have hb:=(B.ay (D.cursor+1) j 0).rf _ u hu
         have hcu:(D.ay (D.cursor+1) j 0).cnt (nth t.pt j)=u.mr.refs:=by unfold Wd.cnt;rw[hu]
         rw[hcu] at hz
         by_cases h1:u.mr.refs=1
         ·exact JS hw hp hk0 hk hkb hf hd hc hj hjl (by omega) hu h1 B
         ·exact JU hw hp hk0 hk hkb hf hd hc hj hjl (by omega) hu rfl (by omega) (by omega) (by omega)
      ·rw[if_neg hff]
       exact GZ hw hp hk0 hk hkb hf hd hc hff
  ·have e:D.reapB=false:=by unfold Wd.reapB;simp[hk]
   rw[qP e,e]
   exact JR hw hp (by omega)
 ·have e:=reap_no hp
  rw[qP e,e]
  exact Dz hw hp
end
theorem last_one{P:Nat→Bool}{a b:Nat}(ha:∀j,j<a→P j=true)(ha2:P a=false)(hb:∀j,j<b→P j=true)(hb2:P b=false):a=b:=by
 rcases Nat.lt_trichotomy a b with h|h|h
 ·rw[hb a h] at ha2
  cases ha2
 ·exact h
 ·rw[ha b h] at hb2
  cases hb2
theorem bz.SI{c:Cf}{k:Nat}{D:Wd}(I:bz c k D)(r:Int):bz c (k+1) (D.less r):=I.to (I.san.less r) ((I.bd.less r).mono (Nat.le_succ k)) (Cs r)
section
variable {c:Cf} {zs:List Int} {D:Wd} {t:Th} {r:Int}
theorem TH(hr:In64 r):Does c D 49 [.int .i64 r] 1 D (.bool (D.find r).isSome):=fun zs hz R=>by
 have e:=TF R.heap hz.may hr
 rw[fw R r,Option.isSome_map] at e
 rw[←e]
 exact⟨zs,⟨1*eX (aK c (prev r) 0),by have:=qC (aK c (prev r) 0);omega,fun p m w hG=>xW hG r⟩,R⟩
theorem AX(R:aG c zs D)(hf:D.find r=some t):Run c 110 [.int .i64 r] zs 3 zs (.tuple #[.int .i64 (t.pt.length:Int),.int .i64 (t.dt.length:Int),.int .i64 0]):=fun p m w hG=>by
 obtain⟨htl,rfl⟩:=ax hf
 exact qd (s:=⟨zs,m⟩) (o:=t.ob) hG R.heap (R.bN htl)
theorem NW(hz:Wz c zs)(R:aG c zs D)(hr:In64 r)(h0:D.cnt r=0):∃d,d≤8∧Run c 111 [.int .i64 r] zs d zs (.tuple #[.int .i64 0,.bool false]):=by
 cases hf:D.find r with
 |none=>exact mZ.down_no c zs D.clean D.bZ r hz R.heap hr (by rw[fw R r,hf];rfl)
 |some t=>
  obtain⟨htl,rfl⟩:=ax hf
  have e:t.mr.refs=0:=by unfold Wd.cnt at h0;rw[hf] at h0;exact h0
  exact mZ.down_zero c zs D.clean D.bZ t.ob hz R.heap (R.bN htl) (by have e3:nth zs (ai c t.ob.h 3)=t.mr.refs:=(R.own t htl).w3;rw[e3];exact e)
theorem EN(hf:D.find r=some t){f:Int}(hn:¬f<(t.pt.length:Int)):Does c D 52 [.int .i64 r,.int .i64 f] 3 D (.bool false):=fun zs hz R=>
 ⟨zs,⟨3,Nat.le_refl _,FU hn (AX R hf)⟩,R⟩
theorem Ot(S:San D)(hf:D.find r=some t)(hd:t.mr.dead=false){i:Nat}(hi:i<t.pt.length):Does c D 52 [.int .i64 r,.int .i64 (i:Int)] 72 (D.rW r i (nth t.pt i)) (.bool true):=fun zs hz R=>by
 obtain⟨htl,er⟩:=ax hf
 have hk:=S.ok t htl
 have hpb:=S.Jh R hz.may
 have hr:In64 r:=by rw[←er];exact R.heap.EI hz.may (R.bN htl)
 have C0:=AX R hf
 obtain⟨a,ha⟩:=(hk.alive hd).field hz.may R.w.symm hk.uz hi
 obtain⟨⟨d1,hd1,C1⟩,hx0,hx1⟩:=tV hz R hr hf hi ha
 obtain⟨⟨d2,hd2,C2⟩,R2,hz2⟩:=sj hz R hf hi ha (x:=0) (Int.le_refl 0) (by omega)
 have hn:(i:Int)<(t.pt.length:Int):=by omega
 generalize nth t.pt i=x at C1 hx0 hx1
 have hxr:In64 x:=by unfold In64;omega
 unfold Wd.rW
 by_cases hc:(D.ay r i 0).cnt x=0
 ·rw[if_pos hc]
  obtain⟨d3,hd3,C3⟩:=NW hz2 R2 hxr hc
  exact⟨_,⟨3+d1+d2+d3,by omega,zA hn C0 C1 C2 C3⟩,R2⟩
 ·rw[if_neg hc]
  cases hu:(D.ay r i 0).find x with
  |none=>exact absurd (by unfold Wd.cnt;rw[hu]) hc
  |some u=>
   have hcu:(D.ay r i 0).cnt x=u.mr.refs:=by unfold Wd.cnt;rw[hu]
   obtain⟨zs3,C3,R3⟩:=BP hz2 R2 hu (by rw[←hcu];exact hc)
   have hz3:Wz c zs3:=jk.wz hz2 ⟨3,Nat.le_refl _,C3⟩
   have hcd:((D.ay r i 0).down x).cnt x=u.mr.refs-1:=by unfold Wd.cnt Wd.down;rw[fu _ hu]
   by_cases hk1:u.mr.refs-1=0
   ·rw[hk1] at C3
    obtain⟨zs4,⟨d4,hd4,C4⟩,R4,hz4⟩:=(Ey (c:=c) (D:=(D.ay r i 0).down x) hxr hpb.1 (by show D.pending≤_;omega)).at hz3 R3
    exact⟨zs4,⟨3+d1+d2+3+d4,by omega,zx hn C0 C1 C2 C3 C4⟩,R4⟩
   ·have e:((D.ay r i 0).down x).inter x=(D.ay r i 0).down x:=by unfold Wd.inter;rw[if_neg (by rw[hcd];exact hk1)]
    rw[e]
    exact⟨zs3,⟨3+d1+d2+3,by omega,zy hn hk1 C0 C1 C2 C3⟩,R3⟩
theorem ld_reap(S:San D):Does c D 12 [] 96 D.reap (.bool D.reapB):=fun zs hz R=>by
 have hm:=hz.may
 have hmn:=hm.n
 have hN:=R.n
 obtain⟨⟨k0,k1⟩,f0,f1⟩:=R.Lj hz
 obtain⟨zs1,⟨d1,hd1,C1⟩,R1,hz1⟩:=(tintFns.at_ c D).at hz R
 obtain⟨zs2,⟨d2,hd2,C2⟩,R2,hz2⟩:=(tintFns.phase c D).at hz1 R1
 by_cases hp:D.phase=3
 ·rw[hp] at C2
  by_cases hk:D.cursor<(D.n:Int)
  ·have e:D.reapB=true:=by unfold Wd.reapB;simp[hp,hk]
   have hk':D.cursor<(c.N:Int):=by rw[←hN];exact hk
   have hr:In64 (D.cursor+1):=by constructor<;>omega
   unfold Wd.reap
   rw[e,if_pos rfl]
   obtain⟨zs3,⟨d3,hd3,C3⟩,R3,hz3⟩:=(TH (c:=c) (D:=D) hr).at hz2 R2
   cases hf:D.find (D.cursor+1) with
   |none=>
    rw[hf] at C3
    obtain⟨zs4,⟨d4,hd4,C4⟩,R4,hz4⟩:=(ko (c:=c) (D:=D) (x:=D.cursor+1) (y:=0) (by omega) (by omega) (by omega) (by omega)).at hz3 R3
    exact⟨zs4,⟨d1+d2+d3+d4,by omega,CR k0 hk' hm C1 C2 C3 C4⟩,R4⟩
   |some t=>
    rw[hf] at C3
    have hdd:D.dead (D.cursor+1)=t.mr.dead:=by unfold Wd.dead;rw[hf]
    have hbb:D.fB (D.cursor+1)=decide (t.mr.color=D.parity):=by unfold Wd.fB;rw[hf]
    obtain⟨zs4,⟨d4,hd4,C4⟩,R4,hz4⟩:=(tintFns.dead c D (D.cursor+1) hr).at hz3 R3
    rw[hdd] at C4
    unfold Wd.CG
    simp only
    cases hd:t.mr.dead with
    |true=>
     rw[hd] at C4
     rw[if_pos (.inl rfl)]
     obtain⟨zs5,⟨d5,hd5,C5⟩,R5,hz5⟩:=(ko (c:=c) (D:=D) (x:=D.cursor+1) (y:=0) (by omega) (by omega) (by omega) (by omega)).at hz4 R4
     exact⟨zs5,⟨d1+d2+d3+d4+d5,by omega,CP k0 hk' hm C1 C2 C3 C4 C5⟩,R5⟩
    |false=>
     rw[hd] at C4
     obtain⟨zs5,⟨d5,hd5,C5⟩,R5,hz5⟩:=(tintFns.fB c D (D.cursor+1) hr).at hz4 R4
     rw[hbb] at C5
     by_cases hc:t.mr.color=D.parity
     ·rw[decide_eq_true hc] at C5
      rw[if_pos (.inr hc)]
      obtain⟨zs6,⟨d6,hd6,C6⟩,R6,hz6⟩:=(ko (c:=c) (D:=D) (x:=D.cursor+1) (y:=0) (by omega) (by omega) (by omega) (by omega)).at hz5 R5
      exact⟨zs6,⟨d1+d2+d3+d4+d5+d6,by omega,zu k0 hk' hm C1 C2 C3 C4 C5 C6⟩,R6⟩
     ·rw[decide_eq_false hc] at C5
      rw[if_neg (fun h=>h.elim (fun h=>by cases h) hc)]
      by_cases hff:D.field<(t.pt.length:Int)
      ·obtain⟨j,hj⟩:=Int.eq_ofNat_of_zero_le f0
       have hjl:j<t.pt.length:=by omega
       have hsz:=(R5.Nc hm S (ax hf).1).small
       obtain⟨zs6,⟨d6,hd6,C6⟩,R6,hz6⟩:=(Ot (c:=c) S hf hd hjl).at hz5 R5
       obtain⟨zs7,⟨d7,hd7,C7⟩,R7,hz7⟩:=(ko (c:=c) (D:=D.rW (D.cursor+1) j (nth t.pt j)) (x:=D.cursor) (y:=(j:Int)+1) (by omega) (by omega) (by omega) (by omega)).at hz6 R6
       rw[if_pos hff]
       rw[hj] at C1 ⊢
       rw[Int.toNat_natCast]
       exact⟨zs7,⟨d1+d2+d3+d4+d5+d6+d7,by omega,Jp (f:=(j:Int)) (by omega) (by omega) k0 hk' hm C1 C2 C3 C4 C5 C6 C7⟩,R7⟩
      ·obtain⟨zs6,⟨d6,hd6,C6⟩,R6,hz6⟩:=(EN (c:=c) hf hff).at hz5 R5
       obtain⟨zs7,⟨d7,hd7,C7⟩,R7,hz7⟩:=(tintFns.cO c D (D.cursor+1) hr).at hz6 R6
       obtain⟨zs8,⟨d8,hd8,C8⟩,R8,hz8⟩:=(ko (c:=c) (D:=D.cO (D.cursor+1)) (x:=D.cursor+1) (y:=0) (by omega) (by omega) (by omega) (by omega)).at hz7 R7
       rw[if_neg hff]
       exact⟨zs8,⟨d1+d2+d3+d4+d5+d6+d7+d8,by omega,CQ k0 hk' hm C1 C2 C3 C4 C5 C6 C7 C8⟩,R8⟩
  ·have e:D.reapB=false:=by unfold Wd.reapB;simp[hk]
   rw[qP e,e]
   exact⟨zs2,⟨d1+d2,by omega,FT (by rw[←hN];omega) C1 C2⟩,R2⟩
 ·have e:=reap_no hp
  rw[qP e,e]
  exact⟨zs2,⟨d1+d2,by omega,zw hp C1 C2⟩,R2⟩
end
def Ur:Wd:=(Wd.new 2 16).born 1 0
def VJ:Wd:=Ur.born 1 0
def Px:Wd:=VJ.put 1 0 2 0
def RZ:Wd:=Px.put 2 0 1 0
def RY:Wd:=RZ.less 1
def Mt:Wd:=RY.less 2
def UQ:Wd:=Mt.turn.begin 1
def UN:Wd:=(bi 4 UQ).begin 2
def Wu:Wd:=eY 2 UN
def Py:Wd:=Wu.begin 3
def Pz:Wd:=Py.reap
def PD:Wd:=Pz.reap
def Jq:Wd:=PD.reap
theorem PH:(Wd.new 2 16).kQ 1 0=0∧(Wd.new 2 16).jO 1 0=1:=by decide
theorem PI:Ur.kQ 1 0=0∧Ur.jO 1 0=2:=by decide
theorem PK:∀j:Fin 4,(bi j UQ).fJ=true:=by decide
theorem Mw:(bi 4 UQ).fJ=false:=by decide
theorem PG:∀j:Fin 2,(eY j UN).dX=true:=by decide
theorem Mv:(eY 2 UN).dX=false:=by decide
theorem CU:Py.reapB=true∧Pz.reapB=true∧PD.reapB=true:=by decide
theorem Jr:Jq.pending=1∧Jq.cnt 2=0∧Mt.pending=0:=by decide
theorem PE:0≤Py.field∧0≤Pz.field∧0≤PD.field:=by decide
def UO(h:Nat)(x:Int)(n:Int):Th:=⟨h,[],[x],[],false,⟨n,0,0,0,0,false,0,0⟩⟩
theorem SY:VJ.find 1=some (UO 0 0 1):=by rfl
theorem VK:VJ.find 2=some (UO 1 0 1):=by rfl
theorem Ta:Px.find 2=some (UO 1 0 2):=by rfl
theorem VL:Px.find 1=some (UO 0 2 1):=by rfl
theorem VM:RZ.find 1=some (UO 0 2 2):=by rfl
theorem VN:RY.find 2=some (UO 1 1 2):=by rfl
set_option maxHeartbeats 2000000 in
theorem begun18_any(w:World):Calls Tryz.prog 7 #[] w fun e w'=>e=.returned (.bool true)∧Below w.heap.size w w':=by
 go_enter Tryz.func7,Tryz.ntmps7
 go_wp2_with fail
 refine(Je Cz 2 _ (by decide) (by decide)).mono ?_
 rintro e w0 ⟨p,q,lo,rfl,h,_,_,_,_⟩
 have H0:=hid h
 have I0:=hid (bz.new (cfR 2) (v:=16) (by decide))
 have HB1:=hid (KA (cfR 2) (Wd.new 2 16) 1 0 h)
 rw[PH.1,PH.2,show(Wd.new 2 16).born 1 0=Ur from rfl] at HB1
 clear h
 go_wp2_with fail
 refine HB1.out.mono ?_
 rintro e w1 ⟨rfl,h1,_,hOk⟩
 have I1:Hid (bz (cfR 2) 1 Ur):=hid (I0.out.born hOk)
 have HB2:=hid (KA (cfR 2) Ur 1 0 h1)
 rw[PI.1,PI.2,show Ur.born 1 0=VJ from rfl] at HB2
 clear h1 hOk
 go_wp2_with fail
 refine HB2.out.mono ?_
 rintro e w2 ⟨rfl,h2,_,hOk⟩
 have H2:=hid h2
 have I2:bz (cfR 2) 2 VJ:=I1.out.born hOk
 have I3:bz (cfR 2) 3 Px:=I2.put SY rfl 0 2 0
 have I4:bz (cfR 2) 4 RZ:=I3.put Ta rfl 0 1 0
 have I5:bz (cfR 2) 5 RY:=I4.SI 1
 have HI6:Hid (bz (cfR 2) 6 Mt):=hid (I5.SI 2)
 have HP1:=hid (Ch (c:=cfR 2) (x:=2) (i:=0) I2.san SY rfl (by decide) (.inr ⟨_,VK,rfl,by decide⟩) (by decide) (by decide))
 have HP2:=hid (Ch (c:=cfR 2) (x:=1) (i:=0) I3.san Ta rfl (by decide) (.inr ⟨_,VL,rfl,by decide⟩) (by decide) (by decide))
 have HL1:=hid (IA (c:=cfR 2) VM rfl (by decide) (by decide) (by decide))
 have HL2:=hid (IA (c:=cfR 2) VN rfl (by decide) (by decide) (by decide))
 have HPe:=hid ((xy (c:=cfR 2) (D:=Mt)).as (vi Jr.2.2) rfl)
 clear h2 hOk I2 I3 I4 I5
 go_wp2_with fail
 refine(H2.out.does HP1.out).mono ?_
 rintro e w3 ⟨rfl,h,_⟩
 have H3:Hid (ic w p (cfR 2) Px w3):=hid h
 clear h
 go_wp2_with fail
 refine(H3.out.does HP2.out).mono ?_
 rintro e w4 ⟨rfl,h,_⟩
 have H4:Hid (ic w p (cfR 2) RZ w4):=hid h
 clear h
 go_wp2_with fail
 refine(H4.out.does HL1.out).mono ?_
 rintro e w5 ⟨rfl,h,_⟩
 have H5:Hid (ic w p (cfR 2) RY w5):=hid h
 clear h
 go_wp2_with fail
 refine(H5.out.does HL2.out).mono ?_
 rintro e w6 ⟨rfl,h,_⟩
 have H6:Hid (ic w p (cfR 2) Mt w6):=hid h
 clear h
 go_wp2_with fail
 refine(H6.out.does HPe.out).mono ?_
 rintro e w7 ⟨rfl,h,_⟩
 have H7:Hid (ic w p (cfR 2) Mt w7):=hid h
 clear h
 go_wp2_with fail
 refine(RX H7.out HI6.out (by decide) (by decide)).mono ?_
 rintro e w8 ⟨m,n,rfl,t1,t2,f1,f2,_,hS,hsn,_⟩
 have t1:∀j,j<m→(bi j UQ).fJ=true:=t1
 have t2:(bi m UQ).fJ=false:=t2
 obtain rfl:m=4:=last_one (P:=fun j=>(bi j UQ).fJ) t1 t2 (fun j hj=>PK ⟨j,hj⟩) Mw
 have f1:∀j,j<n→(eY j UN).dX=true:=f1
 have f2:(eY n UN).dX=false:=f2
 obtain rfl:n=2:=last_one (P:=fun j=>(eY j UN).dX) f1 f2 (fun j hj=>PG ⟨j,hj⟩) Mv
 have H8:Hid (ic w p (cfR 2) Wu w8):=hid hS
 have s0:San Py:=San.same_but (D:=Wu) hsn rfl rfl rfl rfl (fun b hb=>.inl hb)
 have s1:San Pz:=s0.reap PE.1
 have s2:San PD:=s1.reap PE.2.1
 have HBe:=hid (ld_begin (c:=cfR 2) (D:=Wu) 3 (by decide) (by decide))
 have HR1:=hid ((ld_reap (c:=cfR 2) s0).as (vb CU.1) rfl)
 have HR2:=hid ((ld_reap (c:=cfR 2) s1).as (vb CU.2.1) rfl)
 have HR3:=hid ((ld_reap (c:=cfR 2) s2).as (vb CU.2.2) rfl)
 have HPf:=hid ((xy (c:=cfR 2) (D:=Jq)).as (vi Jr.1) rfl)
 have HCn:=hid ((Ip (c:=cfR 2) (D:=Jq) (EI 2)).as (vi Jr.2.1) rfl)
 clear hS hsn t1 t2 f1 f2 s0 s1 s2
 go_wp2_with fail
 refine(H8.out.does HBe.out).mono ?_
 rintro e w9 ⟨rfl,h,_⟩
 have H9:Hid (ic w p (cfR 2) Py w9):=hid h
 clear h
 go_wp2_with fail
 refine(H9.out.does HR1.out).mono ?_
 rintro e w10 ⟨rfl,h,_⟩
 have H10:Hid (ic w p (cfR 2) Pz w10):=hid h
 clear h
 go_wp2_with fail
 refine(H10.out.does HR2.out).mono ?_
 rintro e w11 ⟨rfl,h,_⟩
 have H11:Hid (ic w p (cfR 2) PD w11):=hid h
 clear h
 go_wp2_with fail
 refine(H11.out.does HR3.out).mono ?_
 rintro e w12 ⟨rfl,h,_⟩
 have H12:Hid (ic w p (cfR 2) Jq w12):=hid h
 clear h
 go_wp2_with fail
 refine(H12.out.does HPf.out).mono ?_
 rintro e w13 ⟨rfl,h,_⟩
 have H13:Hid (ic w p (cfR 2) Jq w13):=hid h
 clear h
 go_wp2_with fail
 refine(H13.out.does HCn.out).mono ?_
 rintro e w14 ⟨rfl,h,_⟩
 have H14:Hid (ic w p (cfR 2) Jq w14):=hid h
 clear h
 go_wp2_with fail
 go_ret
 exact⟨rfl,H14.out.below⟩
section
variable {w wr w':World} {p:Pl} {q lo m k n:Nat} {c:Cf} {D D2 D':Wd} {t u:Th} {r i x y sp sd:Int}
def KZ(w:World)(p:Pl)(q lo:Nat)(c:Cf)(D':Wd)(e:Ending)(w':World):Prop:=e=.returned (.bool true)∧qA w p q lo c D' D' w'
theorem xk(b:Bool):(b==b)=true:=by cases b<;>rfl
end
section
variable {w wr w':World} {p:Pl} {q lo m k n:Nat} {c:Cf} {D D2 D':Wd} {t u:Th} {r i x y sp sd:Int} {zs:List Int}
theorem Qw.does{f:FuncId}{args:List Value}{B:Nat}{v:Value}(h:Qw w p c D m wr)(ha:Does c D f args B D' v):
  Calls Tryz.prog f (List.toArray (.pointer (some ⟨p.a,0,none⟩)::args)) wr fun e w'=>e=.returned v∧(∃d,d≤B∧Qw w p c D' (m+d) w')∧Touch (ah p) wr w':=by
 obtain⟨zs,hG,hR,hp,hB⟩:=h
 obtain⟨zs',⟨d,hd,H⟩,hR'⟩:=ha zs hG.wz hR
 refine(H p m wr hG).mono ?_
 rintro e w' ⟨rfl,hG',hT⟩
 exact⟨rfl,⟨d,hd,⟨zs',hG',hR',hp,hB.trans (hT.below hp hB.size)⟩⟩,hT⟩
theorem Qw.WM(h:Qw w p c D m wr):ic w p c D wr:=by
 obtain⟨zs,h1,h2,h3,h4⟩:=h
 exact⟨zs,m,h1,h2,h3,h4⟩
def Wd.WS(D:Wd)(x y:Int):Nat:=if D.kQ x y=0 then 1+D.wP x y else 0
set_option maxHeartbeats 2000000 in
theorem Oz(c:Cf)(D:Wd)(x y:Int){wr w:World}{p:Pl}(h:Qw w p c D m wr):
  Calls Tryz.prog 30 #[.pointer (some ⟨p.a,0,none⟩),.int .i64 x,.int .i64 y] wr fun e w'=>e=.returned (.tuple #[.int .i64 (D.jO x y),.int .i64 (D.kQ x y)])∧((∃d,d≤128+2*c.W*D.WS x y∧Qw w p c (D.born x y) (m+d) w')∧rT D x y c.N)∧Touch (ah p) wr w':=by
 have HM:=hid (LU D x y h)
 clear h
 unfold Wd.WS
 by_cases hE:D.kQ x y=0
 ·have hD:D.born x y=((D.kG x y).nQ (D.jO x y)).more (D.jO x y):=by unfold Wd.born;rw[if_pos hE]
  have HE:=hid hE
  rw[hE] at HM
  rw[if_pos rfl] at HM
  rw[hE,hD,if_pos rfl]
  clear hE hD
  go_enter Tryz.func30,Tryz.ntmps30
  go_wp2_with fail
  refine HM.out.mono ?_
  rintro e w1 ⟨rfl,⟨d1,hd1,h1⟩,hT⟩
  have HBk:=hid h1.WM.BF
  have HS1:=hid h1
  have HT1:=hid hT
  have Hd1:=hid hd1
  obtain⟨t,hf,eh,em⟩:=HBk.out.new HE.out
  have h64:In64 (D.jO x y):=by
   obtain⟨zs,m,hG,hR,_⟩:=h1.WM
   exact jq hG.may hR hf
  obtain⟨mm,hf2,_,em2⟩:=Em (D.jO x y) hf (D.jO x y)
  have HDy:=hid ((tintFns.nQ c (D.kG x y) (D.jO x y) h64).as (vb (show((D.kG x y).find (D.jO x y)).isSome=true by rw[hf];rfl)) rfl)
  have HMo:=hid (Cm (c:=c) hf2 (by show mm.refs<_;rw[em2,em];decide))
  clear h1 hT hf hf2 hd1
  go_wp2_with fail
  refine(HS1.out.does HDy.out).mono ?_
  rintro e w2 ⟨rfl,⟨d2,hd2,h2⟩,hT2⟩
  have HS2:=hid h2
  have Hd2:=hid hd2
  have HT2:=hid (HT1.out.trans hT2)
  clear h2 hT2 hd2
  go_wp2_with fail
  refine(HS2.out.does HMo.out).mono ?_
  rintro e w3 ⟨rfl,⟨d3,hd3,h3⟩,hT3⟩
  have HS3:=hid h3
  have Hd3:=hid hd3
  have HT3:=hid (HT2.out.trans hT3)
  clear h3 hT3 hd3
  go_wp2_with fail
  go_ret2
  refine⟨rfl,⟨⟨d1+d2+d3,?_,?_⟩,HBk.out⟩,HT3.out⟩
  ·have:=Hd1.out
   have:=Hd2.out
   have:=Hd3.out
   omega
  ·have:=HS3.out
   rw[show m+d1+d2+d3=m+(d1+d2+d3) by omega] at this
   exact this
 ·have hD:D.born x y=D.kG x y:=by unfold Wd.born Wd.kG;rw[if_neg hE,if_neg hE]
  have hb:(D.kQ x y==0)=false:=bL hE
  have hR0:D.jO x y=0:=by unfold Wd.jO;rw[if_neg hE]
  have HE:=hid hE
  rw[if_neg hE] at HM
  rw[hD,if_neg hE]
  rw[hR0] at HM ⊢
  clear hE hD hR0
  generalize hEe:D.kQ x y=E at*
  have HEe:=hid hEe
  clear hEe
  go_enter Tryz.func30,Tryz.ntmps30
  go_wp2_with fail
  refine HM.out.mono ?_
  rintro e w1 ⟨rfl,⟨d1,hd1,h1⟩,hT⟩
  have HBk:=hid h1.WM.BF
  have HS1:=hid h1
  have HT1:=hid hT
  have Hd1:=hid hd1
  clear h1 hT hd1
  go_wp2_with fail
  go_ret2
  exact⟨rfl,⟨⟨d1,by have:=Hd1.out;omega,HS1.out⟩,HBk.out⟩,HT1.out⟩
end
section
variable {w wr w':World} {p:Pl} {q lo m k n:Nat} {c:Cf} {D D2 D':Wd} {t u:Th} {r i x y sp sd:Int}
theorem az.WC{a:WA}{lab:Nat→Nat}(h:az wr lo lab a D):∀(i:Nat) (t:Th) (x:TA),D.ts[i]? =some t→a.tas[i]? =some x→0<t.pt.length→∀g,x.pa=some ⟨g,0,none⟩→g<wr.heap.size:=fun i t x ht hx h0 g hg=>((h.h.th i t x ht hx).lpa h0 g 0 hg).2.1
theorem az.Vv{a:WA}{lab:Nat→Nat}(h:az wr lo lab a D):¬XW lo wr.heap.size a wr.heap.size:=fun hx=>by
 rcases hx with hx|⟨xx,hm,hx⟩
 ·have:=h.wb.lt;omega
 ·obtain⟨ii,hii⟩:=List.mem_iff_getElem?.1 hm
  have hl:=(List.getElem?_eq_some_iff.1 hii).1
  rw[h.h.len] at hl
  rcases hx with hx|⟨_,hx,_⟩
  ·have:=(h.mb ii _ xx (List.getElem?_eq_getElem hl) hii).1.lt;omega
  ·omega
theorem az.Vs{a:WA}{lab:Nat→Nat}(h:az wr lo lab a D){Bd b:Nat}(hx:XW lo Bd a b):lo≤b:=by
 rcases hx with hx|⟨xx,hm,hx⟩
 ·rw[hx];exact h.lq.1
 ·obtain⟨ii,hii⟩:=List.mem_iff_getElem?.1 hm
  have hl:=(List.getElem?_eq_some_iff.1 hii).1
  rw[h.h.len] at hl
  rcases hx with hx|⟨_,_,hx⟩
  ·rw[hx];exact(h.mb ii _ xx (List.getElem?_eq_getElem hl) hii).2.1
  ·exact hx
theorem nS.next(h:nS w p q lo c D D2 m wr)(k1:bT w' lo q D')(k3:Touch (fun b=>lo≤b) wr w'):nS w p q lo c D D' m w':=by
 obtain⟨⟨zs,hG,hR,hp,hB⟩,h5,h6,h7⟩:=h
 exact⟨⟨zs,hG.touch k3 (fun i hi hx=>h6 i hx hi),hR,hp,hB.trans (k3.below (fun i hi=>Nat.le_trans h7 hi) hB.size)⟩,k1,h6,h7⟩
end
section
variable {w wr w':World} {p:Pl} {q lo m k n:Nat} {c:Cf} {D D2 D':Wd} {t u:Th} {r i x y sp sd:Int}
theorem bT.WP{P:Prop}(h:bT wr lo q D)(H:∀lab a,WA.q a=q→az wr lo lab a D→P):P:=by
 obtain⟨lab,a,e,hw⟩:=h
 exact H lab a e hw
theorem Pm(hs:Sit c D)(I:bz c k D)(hN:c.N≤1000)(hk:k≤7000)(hr:In64 r)(hx:In64 x)(i:Int):
  ∃B D' v,B≤192∧Does c D 31 [.int .i64 r,.int .i64 i,.int .i64 x] B D' (.int .i64 v)∧(∀Bd wz lab a,WA.q a=q→az wz lo lab a D→(∀(i:Nat) (t:Th) (x:TA),D.ts[i]? =some t→a.tas[i]? =some x→0<t.pt.length→∀g,x.pa=some ⟨g,0,none⟩→g<Bd)→Calls Tryz.prog 41 #[.pointer (some ⟨q,0,none⟩),.int .i64 r,.int .i64 i,.int .i64 x] wz (lD Bd wz lo a D' (.int .i64 v)))∧bz c (k+1) D':=by
 have B:=hs.wb hN
 have hl:=hs.lens
 cases ha:D.dz r with
 |false=>exact⟨_,D,_,by omega,EM hr ha i x,fun Bd wz lab a e hw _=>by subst e;exact GX hw ha i x,I.up⟩
 |true=>
  obtain⟨t,hf,hd⟩:=lG ha
  have z:=hs.Nc (ax hf).1
  by_cases hi:0≤i∧i<(t.pt.length:Int)
  ·obtain⟨j,rfl⟩:=Int.eq_ofNat_of_zero_le hi.1
   have hj:j<t.pt.length:=by have:=hi.2;omega
   have hsh:=hs.Ru hf hd (k:=j) (by omega)
   by_cases hx0:x=0
   ·subst hx0
    refine⟨_,_,_,by omega,Ch I.san hf hd hj (.inl rfl) B.p0 B.p1,fun Bd wz lab a e hw hpb=> ?_,I.put hf hd j 0 _⟩
    subst e
    by_cases hy:0<(D.bW r j 0).cnt (nth t.pt j)
    ·exact Qk hw hpb B (by omega) hf hd z hj hsh hy
    ·exact Qj hw hpb B (by omega) hf hd z hj hsh hy
   ·cases hxa:D.dz x with
    |false=>exact⟨_,D,_,by omega,IB I.san hf hd hj hx0 hx hxa,fun Bd wz lab a e hw _=>by subst e;exact JQ hw hf hd z hj hsh hx0 hxa,I.up⟩
    |true=>
     obtain⟨u,hu,hud⟩:=lG hxa
     have hub:u.mr.refs<4294967295:=by have:=(I.bd x u hu).1;omega
     refine⟨_,_,_,by omega,Ch I.san hf hd hj (.inr ⟨u,hu,hud,hub⟩) B.p0 B.p1,fun Bd wz lab a e hw hpb=> ?_,I.put hf hd j x _⟩
     subst e
     by_cases hy:0<(D.bW r j x).cnt (nth t.pt j)
     ·exact Qm hw hpb B (by omega) hf hd z hj hsh hx0 ⟨u,hu,hud,hub⟩ hy
     ·exact Ql hw hpb B (by omega) hf hd z hj hsh hx0 ⟨u,hu,hud,hub⟩ hy
  ·exact⟨_,D,_,by omega,Ci hf hd hi x,fun Bd wz lab a e hw _=>by subst e;exact Dx hw hf hd hi x,I.up⟩
theorem IR{zs zs1:List Int}{d1:Nat}{r:Int}(C1:Run c 111 [.int .i64 r] zs d1 zs1 (.tuple #[.int .i64 0,.bool false])):Run c 89 [.int .i64 r] zs d1 zs1 (.bool false):=fun p m w hG=>by
 have HG:=hid hG
 have HC1:=hid C1
 clear hG C1
 go_enter Tryz.func89,Tryz.ntmps89
 go_wp2_with fail
 refine(HC1.out p _ _ HG.out).mono ?_
 rintro e wm1 ⟨rfl,hG,hT⟩
 have HG1:=hid hG
 have HT1:=hid hT
 clear hG hT
 go_wp2_with fail
 go_ret
 exact⟨rfl,HG1.out,HT1.out⟩
theorem EL(hf:D.find r=some t)(hd:t.mr.dead=false)(h0:t.mr.refs=0):Does c D 32 [.int .i64 r] 22 D (.bool false):=fun zs hz R=>by
 have hr:=jq hz.may R hf
 obtain⟨zs1,⟨d1,hd1,C1⟩,R1,hz1⟩:=(jA (c:=c) (D:=D) hr).at hz R
 rw[bv hf,hd] at C1
 obtain⟨htl,e⟩:=ax hf
 obtain⟨d2,hd2,C2⟩:=mZ.down_zero c zs1 D.clean D.bZ t.ob hz1 R1.heap (R1.bN htl) (by have e3:nth zs1 (ai c t.ob.h 3)=t.mr.refs:=(R1.own t htl).w3;rw[e3,h0])
 have e':((t.ob.h:Nat):Int)+1=r:=e
 rw[e'] at C2
 exact⟨zs1,⟨d1+d2,by omega,OC C1 (IR C2)⟩,R1⟩
theorem Oy(hs:Sit c D)(I:bz c k D)(hN:c.N≤1000)(hr:In64 r):
  ∃B,B≤96∧Does c D 32 [.int .i64 r] B (D.ny r) (.bool (D.qa r))∧(∀wz,bT wz lo q D→Calls Tryz.prog 42 #[.pointer (some ⟨q,0,none⟩),.int .i64 r] wz (dW wz lo q (D.ny r) (.bool (D.qa r))))∧bz c (k+1) (D.ny r):=by
 have B:=hs.wb hN
 have HW:∀wz,bT wz lo q D→Calls Tryz.prog 42 #[.pointer (some ⟨q,0,none⟩),.int .i64 r] wz (dW wz lo q (D.ny r) (.bool (D.qa r))):=fun wz h=>h.WP fun lab a e hw=>by subst e;exact VX hw B r
 cases ha:D.dz r with
 |false=>
  have e1:D.qa r=false:=by unfold Wd.qa;rw[ha];rfl
  have e2:D.ny r=D:=by unfold Wd.ny;rw[e1];rfl
  refine⟨14,by omega,?_,HW,I.ny r⟩
  rw[e1,e2]
  exact LC hr ha
 |true=>
  obtain⟨t,hf,hd⟩:=lG ha
  have hc:D.cnt r=t.mr.refs:=by unfold Wd.cnt;rw[hf]
  by_cases h0:t.mr.refs=0
  ·have e1:D.qa r=false:=by unfold Wd.qa;rw[hc];simp[h0]
   have e2:D.ny r=D:=by unfold Wd.ny;rw[e1];rfl
   refine⟨22,by omega,?_,HW,I.ny r⟩
   rw[e1,e2]
   exact EL hf hd h0
  ·have e1:D.qa r=true:=by unfold Wd.qa;rw[ha,hc];simp[h0]
   have e2:D.ny r=D.less r:=by unfold Wd.ny;rw[e1];rfl
   refine⟨60,by omega,?_,HW,I.ny r⟩
   rw[e1,e2]
   exact IA hf hd h0 B.p0 B.p1
theorem Lx(hs:Sit c D)(I:bz c k D)(hN:c.N≤1000)(hk:k≤7000)(hr:In64 r):
  ∃B,B≤64∧Does c D 16 [.int .i64 r] B (D.oU r) (.bool (D.dz r))∧(∀wz,bT wz lo q D→Calls Tryz.prog 43 #[.pointer (some ⟨q,0,none⟩),.int .i64 r] wz (dW wz lo q (D.oU r) (.bool (D.dz r))))∧bz c (k+1) (D.oU r):=by
 have B:=hs.wb hN
 cases ha:D.dz r with
 |false=>
  have e2:D.oU r=D:=by unfold Wd.oU;rw[ha];rfl
  refine⟨14,by omega,?_,fun wz h=>h.WP fun lab a e hw=> ?_,I.oU r⟩
  ·rw[e2];exact xL hr ha
  ·subst e;rw[e2];exact(MW hw ha).mono fun e w' h=>h.toW
 |true=>
  obtain⟨t,hf,hd⟩:=lG ha
  have e2:D.oU r=D.more r:=by unfold Wd.oU;rw[ha];rfl
  have hb:t.mr.refs<4294967295:=by have:=(I.bd r t hf).1;omega
  refine⟨36,by omega,?_,fun wz h=>h.WP fun lab a e hw=> ?_,I.oU r⟩
  ·rw[e2];exact Kv hf hd hb
  ·subst e;rw[e2];exact(UF hw hf hd (B.rf r t hf).1 hb B.rl).mono fun e w' h=>h.toW
theorem bz.lq(hs:Sit c D)(I:bz c k D)(hN:c.N≤1000)(hW:c.W≤18)(hk:k≤7000):Vb D:=by
 have hl:=hs.lens
 have h1:=I.hd.1
 rw[List.length_map] at h1
 refine⟨⟨by omega,by omega,fun t ht=>by have:=I.hd.2 t.h (List.mem_map.2 ⟨t,ht,rfl⟩);omega⟩,by omega,by omega,I.san,fun t ht=> ?_⟩
 have z:=hs.Nc ht
 have hf:=z.f
 rw[hs.wd.1] at hf
 have hw:=hs.wd.2.w
 have hm:aL (c.W:Int)≤10*17:=by
  show((c.W:Int)-8)*((c.W:Int)-1)≤_
  exact Int.mul_le_mul (by omega) (by omega) (by omega) (by omega)
 exact⟨z,by omega,by omega⟩
theorem Re{w:World}{a:Option Addr}{rs:List (List mW)}(hr:yV w a [.int .u8,.int .i64,.int .i64,.int .i64,.int .i64,.int .i64] rs){k:Nat}(hk:k<rs.length):
  ∃(b off:Nat) (kd r i x sp sd:Int),a=some ⟨b,off,none⟩∧b<w.heap.size∧w.cell? ⟨b,off+k*6,none⟩=some (.int .u8 kd)∧w.cell? ⟨b,off+k*6+1,none⟩=some (.int .i64 r)∧w.cell? ⟨b,off+k*6+2,none⟩=some (.int .i64 i)∧w.cell? ⟨b,off+k*6+3,none⟩=some (.int .i64 x)∧w.cell? ⟨b,off+k*6+4,none⟩=some (.int .i64 sp)∧w.cell? ⟨b,off+k*6+5,none⟩=some (.int .i64 sd)∧0≤kd∧In64 r∧In64 x:=by
 obtain⟨h1,b,off,ha,hb,hc⟩:=hr k rs[k] (by simp[hk])
 generalize rs[k]=r at h1 hc
 have hl:r.length=6:=by have:=congrArg List.length h1;simpa using this
 match r,hl with
 |[f0,f1,f2,f3,f4,f5],_=>
  simp at h1
  obtain⟨k0,k1,k2,k3,k4,k5⟩:=h1
  have c0:=hc 0 f0 rfl
  have c1:=hc 1 f1 rfl
  have c2:=hc 2 f2 rfl
  have c3:=hc 3 f3 rfl
  have c4:=hc 4 f4 rfl
  have c5:=hc 5 f5 rfl
  cases f0<;>simp[mW.kd] at k0
  cases f1<;>simp[mW.kd] at k1
  cases f2<;>simp[mW.kd] at k2
  cases f3<;>simp[mW.kd] at k3
  cases f4<;>simp[mW.kd] at k4
  cases f5<;>simp[mW.kd] at k5
  subst k0 k1 k2 k3 k4 k5
  refine⟨b,off,_,_,_,_,_,_,ha,hb,by simpa[mW.val] using c0.1,by simpa[mW.val] using c1.1,by simpa[mW.val] using c2.1,by simpa[mW.val] using c3.1,by simpa[mW.val] using c4.1,by simpa[mW.val] using c5.1,?_,?_,?_⟩
  ·have:=c0.2
   simp[mW.ok,Lit.wf,IntKind.min,IntKind.max,IntKind.bits,IntKind.signed] at this
   omega
  ·have:=c1.2
   simp[mW.ok,Lit.wf,IntKind.min,IntKind.max,IntKind.bits,IntKind.signed] at this
   unfold In64
   omega
  ·have:=c3.2
   simp[mW.ok,Lit.wf,IntKind.min,IntKind.max,IntKind.bits,IntKind.signed] at this
   unfold In64
   omega
end
end Go.Proofs.YtjmifnljckmimaaGreat.Pk
