/-
  Texts laid together: TallyOne, TallyHldF.
-/
import Derived.Test.YtbhhfnlkpieebaaGreatRefSeeEtc
import Derived.Test.YtbhhfnlkpieebaaGreatGravGrownEtc
import Derived.Test.YtbhhfnlkpieebaaGreatWholeRowFEtc
import Derived.Test.YtbhhfnlkpieebaaGreatTameEtc
namespace Go.Proofs.YtbhhfnlkpieebaaGreat.Pk
open Lib (hid)
open Go.RowKit
set_option linter.unusedVariables false
set_option linter.unusedSimpArgs false
set_option maxRecDepth 100000
structure gK (c:Cf) (hold:Nat→Nat) (k:Nat) (ph:Int) (D:Wd):Prop where
 li:fV hold k D
 tm:TM D
 pi:dE c k D
 fl:D.field≤100000
 phs:D.phase=ph
def hN(hold:Nat→Nat)(i:Nat):Nat:=if i=0 then 0 else hold (i-1)
def jD(w:World)(p:Pl)(c:Cf)(q k:Nat)(ph:Int)(D:Wd)(hold:Nat→Nat)(wr:World):Prop:=
 RSt w p c D wr∧gK c hold k ph D∧Blk wr q (ji (fun i=>.int .i64 ((hN hold i:Nat):Int)) (c.N+1)) 3∧¬lD p q∧w.heap.size≤q
section
variable {w wr w':World} {p:Pl} {c:Cf} {q k:Nat} {D D':Wd} {hold hold':Nat→Nat} {ph:Int} {t u:Th} {r x y i:Int}
theorem gK.mono{K:Nat}(O:gK c hold k ph D)(h:k≤K):gK c hold K ph D:=⟨O.li.mono h,O.tm,O.pi.mono h,O.fl,O.phs⟩
theorem gK.new{v:Nat}(hv:16≤v):gK c (fun _=>0) 0 0 (Wd.new c.N v):=⟨fV.new c.N hv,.inl ⟨rfl,Dyed.new _ _⟩,dE.new c hv,show(0:Int)≤100000 by decide,rfl⟩
theorem gK.put(O:gK c hold k ph D)(hf:D.find r=some t)(hd:t.mr.dead=false){j:Nat}(hi:j<t.pt.length)(hx:x=0∨∃u,D.find x=some u∧u.mr.dead=false):gK c hold (k+1) ph (D.put r j x (nth t.pt j)):=
 ⟨(O.li.put hf hd hi hx).mono (Nat.le_succ k),O.tm.put O.li.san O.li.nam hf hd hi,O.pi.put hf hd j x _,by rw[(uE r j x (nth t.pt j)).2.2.1];exact O.fl,(uE r j x (nth t.pt j)).2.2.2.trans O.phs⟩
theorem gK.more(O:gK c hold k ph D)(hf:D.find r=some u)(hd:u.mr.dead=false)(hh:∀h:Nat,hold' h=hold h+if(h:Int)+1=r then 1 else 0):gK c hold' (k+1) ph (D.more r):=
 ⟨O.li.up hf hd hh,O.tm.up O.li.san r,O.pi.to (O.li.san.more r) (O.pi.bd.more r) (zg r),by rw[(jm r).2.2.1];exact O.fl,(jm r).2.2.2.trans O.phs⟩
theorem gK.less(O:gK c hold k ph D)(hh:∀h:Nat,hold h=hold' h+if(h:Int)+1=r then 1 else 0):gK c hold' (k+1) ph (D.less r):=
 ⟨(O.li.let hh).mono (Nat.le_succ k),O.tm.less O.li.san r,O.pi.to (O.li.san.less r) ((O.pi.bd.less r).mono (Nat.le_succ k)) (EI r),by rw[(nV r).2.2.1];exact O.fl,(nV r).2.2.2.trans O.phs⟩
theorem gK.born(O:gK c hold k ph D)(B:lZ D x y c.N)(hE:D.tJ x y=0)(hh:∀h:Nat,hold' h=hold h+if h=D.nD then 1 else 0):gK c hold' (k+1) ph (D.born x y):=
 ⟨O.li.born B hE hh,O.tm.born O.li.san B,O.pi.born B,by rw[qi.2.2.1];exact O.fl,qi.2.2.2.trans O.phs⟩
theorem RSt.fields(h:RSt w p c D wr):0≤D.field:=by
 obtain⟨zs,m,hG,hR,_⟩:=h
 exact(hR.CZ hG.wz).2.1
theorem gK.step(O:gK c hold k ph D)(hF:0≤D.field):gK c hold (k+1) ph D.step:=
 gK.mono ⟨O.li.step,O.tm.step O.li.san O.li.nam hF,O.pi.step,by rw[qU.2.2.1];exact O.fl,qU.2.2.2.trans O.phs⟩ (Nat.le_succ k)
theorem JI(h:D.field≤100000)(hs:∀t,t∈D.live→t.pt.length≤100000):D.tally.field≤100000:=by
 unfold Wd.tally
 split
 ·unfold Wd.fH
  cases hf:D.find (D.cursor+1) with
  |none=>exact(show(0:Int)≤100000 by decide)
  |some t=>
   have:=hs t (find_live hf).1
   simp only
   split
   ·exact(show(0:Int)≤100000 by decide)
   ·split
    ·show D.field+1≤100000
     omega
    ·exact(show(0:Int)≤100000 by decide)
 ·exact h
theorem gH.tally(N:gH hold D)(S:San D):gH hold D.tally:=by
 unfold Wd.tally
 split
 ·unfold Wd.fH
  split
  ·exact N.ts rfl
  ·split
   ·exact N.ts rfl
   ·split
    ·exact(N.mark S _ (f:=fun m=>{m with shade:=D.parity,shadow:=D.shd (nth _ D.field.toNat)+1}) (fun _=>rfl) (fun _=>rfl)).ts rfl
    ·exact(N.mark S _ (f:=fun m=>{m with count:=D.parity}) (fun _=>rfl) (fun _=>rfl)).ts rfl
 ·exact N
theorem dF.tally(P:dF x D)(S:San D):dF x D.tally:=by
 unfold Wd.tally
 split
 ·unfold Wd.fH
  split
  ·exact P.ts rfl
  ·split
   ·exact P.ts rfl
   ·split
    ·exact(P.mark S _ (f:=fun m=>{m with shade:=D.parity,shadow:=D.shd (nth _ D.field.toNat)+1}) (fun _=>rfl) (fun _ h=>h)).ts rfl
    ·exact(P.mark S _ (f:=fun m=>{m with count:=D.parity}) (fun _=>rfl) (fun _ h=>h)).ts rfl
 ·exact P
theorem JK:D.tally.live.map Th.h=D.live.map Th.h:=by
 unfold Wd.tally
 split
 ·unfold Wd.fH
  split
  ·rfl
  ·split
   ·rfl
   ·split
    ·exact bJ (D:=D) _ (fun m=>{m with shade:=D.parity,shadow:=D.shd (nth _ D.field.toNat)+1})
    ·exact bJ (D:=D) _ (fun m=>{m with count:=D.parity})
 ·rfl
theorem fV.tally(I:fV hold k D):fV hold k D.tally:=⟨I.san.tally,I.nam.tally I.san,I.pos.tally I.san,I.bd,zq I JK⟩
theorem gK.tally(O:gK c hold k ph D)(hF:0≤D.field)(hs:∀t,t∈D.live→t.pt.length≤100000):gK c hold (k+1) ph D.tally:=
 ⟨O.li.tally.mono (Nat.le_succ k),O.tm.tally O.li.san hF,O.pi.tally,JI O.fl hs,tY.1.trans O.phs⟩
theorem jD.later(h:jD w p c q k ph D hold wr)(hb:Below wr.heap.size wr w'):jD w p c q k ph D hold w':=⟨h.1.later hb,h.2.1,h.2.2.1.later hb,h.2.2.2.1,h.2.2.2.2⟩
theorem jD.refs(h:jD w p c q k ph D hold wr)(hk:k≤1000)(hf:D.find r=some t):t.mr.refs<4294967295:=by
 have:=(h.2.1.pi.bd r t hf).1
 omega
theorem jD.up(h:jD w p c q k ph D hold wr):jD w p c q (k+1) ph D hold wr:=⟨h.1,h.2.1.mono (Nat.le_succ k),h.2.2⟩
theorem Gj(h:jD w p c q k ph D hold wr)(hk:k≤1000)(hr:In64 r)(hx:In64 x)(i:Int):∃B D' v,Does c D 43 [.int .i64 r,.int .i64 i,.int .i64 x] B D' (.int .i64 v)∧gK c hold (k+1) ph D':=by
 have O:=h.2.1
 have hp:=h.1.pendBd O.li.san
 cases ha:D.iD r with
 |false=>exact⟨_,D,_,Bb hr ha i x,O.mono (Nat.le_succ k)⟩
 |true=>
  obtain⟨t,hf,hd⟩:=pM ha
  by_cases hi:0≤i∧i<(t.pt.length:Int)
  ·obtain⟨j,rfl⟩:=Int.eq_ofNat_of_zero_le hi.1
   have hj:j<t.pt.length:=by have:=hi.2;omega
   by_cases hx0:x=0
   ·exact⟨_,_,_,Dj O.li.san hf hd hj (.inl hx0) hp.1 hp.2,O.put hf hd hj (.inl hx0)⟩
   ·cases hxa:D.iD x with
    |false=>exact⟨_,D,_,Dk O.li.san hf hd hj hx0 hx hxa,O.mono (Nat.le_succ k)⟩
    |true=>
     obtain⟨u,hu,hud⟩:=pM hxa
     exact⟨_,_,_,Dj O.li.san hf hd hj (.inr ⟨u,hu,hud,h.refs hk hu⟩) hp.1 hp.2,O.put hf hd hj (.inr ⟨u,hu,hud⟩)⟩
  ·exact⟨_,D,_,yX hf hd hi x,O.mono (Nat.le_succ k)⟩
theorem jD.does{K:Nat}{f:FuncId}{args:List Value}{B:Nat}{v:Value}(h:jD w p c q k ph D hold wr)(ha:Does c D f args B D' v)(I:gK c hold K ph D'):
  Calls Tryz.prog f (List.toArray (.pointer (some ⟨p.a,0,none⟩)::args)) wr fun e w'=>e=.returned v∧jD w p c q K ph D' hold w'∧Touch (inG p) wr w':=by
 refine(h.1.does ha).mono ?_
 rintro e w' ⟨rfl,h1,hT⟩
 exact⟨rfl,⟨h1,I,h.2.2.1.touch hT (fun hx=>h.2.2.2.1 (Or.inr hx)),h.2.2.2⟩,hT⟩
theorem jD.put(h:RSt w p c D wr)(I:gK c hold' k ph D)(hb:Blk wr q (ji (fun i=>.int .i64 ((hN hold i:Nat):Int)) (c.N+1)) 3)(hq:¬lD p q)(hl:w.heap.size≤q){b j:Nat}(hj:j=b+1){v:Int}(hv:v=((hold' b:Nat):Int))(hh:∀h,h≠b→hold' h=hold h):jD w p c q k ph D hold' (wr.setCell ⟨q,j,none⟩ (.int .i64 v)):=by
 subst hj
 have hT:=(Touch.refl (fun i=>i=q) wr).setCell (p:=⟨q,b+1,none⟩) (fun _=>rfl) (.int .i64 v)
 refine⟨h.touch hT (fun i hi e=>hq (e▸hi)) (fun i e=>by rw[e];exact hl),I,?_,hq,hl⟩
 have:=hb.set (b+1) (.int .i64 v)
 rw[Al] at this
 rw[show ji (fun i=>Value.int .i64 ((hN hold' i:Nat):Int)) (c.N+1)=ji (fun j=>if j=b+1 then Value.int .i64 v else Value.int .i64 ((hN hold j:Nat):Int)) (c.N+1) from uP (fun j _=>by
  by_cases e:j=b+1
  ·rw[if_pos e,e,hv]
   rfl
  ·rw[if_neg e]
   unfold hN
   by_cases e0:j=0
   ·rw[if_pos e0,if_pos e0]
   ·rw[if_neg e0,if_neg e0,hh (j-1) (by omega)])]
 exact this
theorem jD.cell(h:Blk wr q (ji (fun i=>.int .i64 ((hN hold i:Nat):Int)) (c.N+1)) 3){b j:Nat}(hj:j=b+1)(hb:b<c.N):wr.cell? ⟨q,j,none⟩=some (.int .i64 ((hold b:Nat):Int)):=by
 subst hj
 exact h.arr (show b+1<c.N+1 by omega)
end
def zZ(w:World)(p:Pl)(c:Cf)(q k:Nat)(ph:Int)(e:Ending)(w':World):Prop:=e=.returned (.tuple #[])∧∃D hold,jD w p c q (k+1) ph D hold w'
section
variable {w wr:World} {p:Pl} {c:Cf} {q k:Nat} {D:Wd} {hold:Nat→Nat} {ph:Int}
set_option maxHeartbeats 2000000 in
theorem KX(h:jD w p c q k ph D hold wr)(hN:c.N≤1000)(r i x y z:Int):
  Calls Tryz.prog 33 #[.pointer (some ⟨p.a,0,none⟩),.slice (some ⟨q,0,none⟩) (c.N+1) (c.N+1),.agg #[.int .u8 0,.int .i64 r,.int .i64 i,.int .i64 x,.int .i64 y,.int .i64 z]] wr (zZ w p c q k ph):=by
 have HBk:=hid (Blk.new wr #[.int .u8 0,.int .i64 r,.int .i64 i,.int .i64 x,.int .i64 y,.int .i64 z] 33)
 have HL:=hid (h.later (below_new wr (.cells #[.int .u8 0,.int .i64 r,.int .i64 i,.int .i64 x,.int .i64 y,.int .i64 z] 33)))
 clear h
 go_enter Tryz.func33,Tryz.ntmps33
 go_wp2_with fail
 generalize wr.alloc (.cells #[.int .u8 0,.int .i64 r,.int .i64 i,.int .i64 x,.int .i64 y,.int .i64 z] 33)=w0 at*
 generalize wr.heap.size=n0 at*
 have b0:w0.cell? ⟨n0,0,none⟩=some (.int .u8 0):=HBk.out.cell 0 rfl
 have b4:w0.cell? ⟨n0,4,none⟩=some (.int .i64 y):=HBk.out.cell 4 rfl
 have b5:w0.cell? ⟨n0,5,none⟩=some (.int .i64 z):=HBk.out.cell 5 rfl
 go_wp2_with fail
 refine(EK c D y z HL.out.1).mono ?_
 rintro e w2 ⟨rfl,h2,hT,hB⟩
 have hq:=HL.out.2.2.2.1
 have hb2:=HL.out.2.2.1.touch hT (fun hx=>hq (Or.inr hx))
 by_cases hE:D.tJ y z=0
 ·obtain⟨j,hj⟩:∃j,j=D.nD+1:=⟨_,rfl⟩
  have eR:D.jT y z=(j:Int):=by unfold Wd.jT;rw[if_pos hE];omega
  have I2:=HL.out.2.1.born (hold':=fun h=>hold h+if h=D.nD then 1 else 0) hB hE (fun _=>rfl)
  have hlt:=hB.lt hE
  have hh0:=HL.out.2.1.li.out _ (hB.fresh hE)
  have HE2:=hid (jD.put (b:=D.nD) (v:=1) h2 I2 hb2 hq HL.out.2.2.2.2 hj (by simp[hh0]) (fun h hne=>by simp[hne]))
  have hjl:j<c.N+1:=by omega
  rw[hE,eR]
  have cq:=jD.cell hb2 hj hlt
  have fq:=hb2.free j
  generalize hold D.nD=hv at*
  generalize D.nD=b at*
  have hz:q<w2.heap.size:=hb2.lt
  clear h2 hT hB hb2 I2 hE eR hh0 b0 b4 b5 hj hlt
  go_wp2_with fail
  go_end0
  exact⟨rfl,_,_,HE2.out⟩
 ·have eD:D.born y z=D:=by unfold Wd.born;rw[if_neg hE]
  rw[eD] at h2
  have HE2:Hid (jD w p c q (k+1) ph D hold w2):=hid ⟨h2,HL.out.2.1.mono (by omega),hb2,HL.out.2.2.2⟩
  have hEb:(D.tJ y z==0)=false:=by rw[beq_eq_false_iff_ne];exact hE
  clear h2 hT hB hb2 hE eD b0 b4 b5
  go_wp2_with fail
  go_end0
  exact⟨rfl,_,_,HE2.out⟩
set_option maxHeartbeats 2000000 in
theorem KY(h:jD w p c q k ph D hold wr)(hk:k≤1000)(r i x y z:Int)(hr:In64 r)(hx:In64 x):
  Calls Tryz.prog 33 #[.pointer (some ⟨p.a,0,none⟩),.slice (some ⟨q,0,none⟩) (c.N+1) (c.N+1),.agg #[.int .u8 1,.int .i64 r,.int .i64 i,.int .i64 x,.int .i64 y,.int .i64 z]] wr (zZ w p c q k ph):=by
 obtain⟨B,D',v,hA,hI⟩:=Gj h hk hr hx i
 have HA:=hid hA
 have HI:=hid hI
 have HBk:=hid (Blk.new wr #[.int .u8 1,.int .i64 r,.int .i64 i,.int .i64 x,.int .i64 y,.int .i64 z] 33)
 have HL:=hid (h.later (below_new wr (.cells #[.int .u8 1,.int .i64 r,.int .i64 i,.int .i64 x,.int .i64 y,.int .i64 z] 33)))
 clear h hA hI hr hx
 go_enter Tryz.func33,Tryz.ntmps33
 go_wp2_with fail
 generalize wr.alloc (.cells #[.int .u8 1,.int .i64 r,.int .i64 i,.int .i64 x,.int .i64 y,.int .i64 z] 33)=w0 at*
 generalize wr.heap.size=n0 at*
 have b0:w0.cell? ⟨n0,0,none⟩=some (.int .u8 1):=HBk.out.cell 0 rfl
 have b1:w0.cell? ⟨n0,1,none⟩=some (.int .i64 r):=HBk.out.cell 1 rfl
 have b2:w0.cell? ⟨n0,2,none⟩=some (.int .i64 i):=HBk.out.cell 2 rfl
 have b3:w0.cell? ⟨n0,3,none⟩=some (.int .i64 x):=HBk.out.cell 3 rfl
 go_wp2_with fail
 refine(HL.out.does HA.out HI.out).mono ?_
 rintro e w2 ⟨rfl,h2,hT⟩
 have HE2:=hid h2
 clear h2 hT
 go_wp2_with fail
 go_end0
 exact⟨rfl,_,_,HE2.out⟩
set_option maxHeartbeats 2000000 in
theorem Lb(h:jD w p c q k ph D hold wr)(r i x y z:Int):
  Calls Tryz.prog 33 #[.pointer (some ⟨p.a,0,none⟩),.slice (some ⟨q,0,none⟩) (c.N+1) (c.N+1),.agg #[.int .u8 4,.int .i64 r,.int .i64 i,.int .i64 x,.int .i64 y,.int .i64 z]] wr (zZ w p c q k ph):=by
 have HA:=hid (Ev (c:=c) h.2.1.li.san)
 have HI:=hid (h.2.1.step h.1.fields)
 have HBk:=hid (Blk.new wr #[.int .u8 4,.int .i64 r,.int .i64 i,.int .i64 x,.int .i64 y,.int .i64 z] 33)
 have HL:=hid (h.later (below_new wr (.cells #[.int .u8 4,.int .i64 r,.int .i64 i,.int .i64 x,.int .i64 y,.int .i64 z] 33)))
 clear h
 go_enter Tryz.func33,Tryz.ntmps33
 go_wp2_with fail
 generalize wr.alloc (.cells #[.int .u8 4,.int .i64 r,.int .i64 i,.int .i64 x,.int .i64 y,.int .i64 z] 33)=w0 at*
 generalize wr.heap.size=n0 at*
 have b0:w0.cell? ⟨n0,0,none⟩=some (.int .u8 4):=HBk.out.cell 0 rfl
 go_wp2_with fail
 refine(HL.out.does HA.out HI.out).mono ?_
 rintro e w2 ⟨rfl,h2,hT⟩
 have HE2:=hid h2
 clear h2 hT
 go_wp2_with fail
 go_end0
 exact⟨rfl,_,_,HE2.out⟩
set_option maxHeartbeats 2000000 in
theorem Lc(h:jD w p c q k ph D hold wr)(r i x y z:Int):
  Calls Tryz.prog 33 #[.pointer (some ⟨p.a,0,none⟩),.slice (some ⟨q,0,none⟩) (c.N+1) (c.N+1),.agg #[.int .u8 5,.int .i64 r,.int .i64 i,.int .i64 x,.int .i64 y,.int .i64 z]] wr (zZ w p c q k ph):=by
 have HA:=hid (Ev (c:=c) h.2.1.li.san)
 have HI:=hid (h.2.1.step h.1.fields)
 have HBk:=hid (Blk.new wr #[.int .u8 5,.int .i64 r,.int .i64 i,.int .i64 x,.int .i64 y,.int .i64 z] 33)
 have HL:=hid (h.later (below_new wr (.cells #[.int .u8 5,.int .i64 r,.int .i64 i,.int .i64 x,.int .i64 y,.int .i64 z] 33)))
 clear h
 go_enter Tryz.func33,Tryz.ntmps33
 go_wp2_with fail
 generalize wr.alloc (.cells #[.int .u8 5,.int .i64 r,.int .i64 i,.int .i64 x,.int .i64 y,.int .i64 z] 33)=w0 at*
 generalize wr.heap.size=n0 at*
 have b0:w0.cell? ⟨n0,0,none⟩=some (.int .u8 5):=HBk.out.cell 0 rfl
 go_wp2_with fail
 refine(HL.out.does HA.out HI.out).mono ?_
 rintro e w2 ⟨rfl,h2,hT⟩
 have HE2:=hid h2
 clear h2 hT
 go_wp2_with fail
 go_end0
 exact⟨rfl,_,_,HE2.out⟩
set_option maxHeartbeats 2000000 in
theorem Ld(h:jD w p c q k ph D hold wr)(hk:k≤1000)(kd r i x y z:Int)(h6:6≤kd):
  Calls Tryz.prog 33 #[.pointer (some ⟨p.a,0,none⟩),.slice (some ⟨q,0,none⟩) (c.N+1) (c.N+1),.agg #[.int .u8 kd,.int .i64 r,.int .i64 i,.int .i64 x,.int .i64 y,.int .i64 z]] wr (zZ w p c q k ph):=by
 have HA:=hid (h.2.1.pi.qy hk)
 have HI:=hid (h.2.1.tally h.1.fields h.1.sizes)
 have k0:(kd==0)=false:=by rw[beq_eq_false_iff_ne];omega
 have k1:(kd==1)=false:=by rw[beq_eq_false_iff_ne];omega
 have k2:(kd==2)=false:=by rw[beq_eq_false_iff_ne];omega
 have k3:(kd==3)=false:=by rw[beq_eq_false_iff_ne];omega
 have k4:(kd==4)=false:=by rw[beq_eq_false_iff_ne];omega
 have k5:(kd==5)=false:=by rw[beq_eq_false_iff_ne];omega
 have HBk:=hid (Blk.new wr #[.int .u8 kd,.int .i64 r,.int .i64 i,.int .i64 x,.int .i64 y,.int .i64 z] 33)
 have HL:=hid (h.later (below_new wr (.cells #[.int .u8 kd,.int .i64 r,.int .i64 i,.int .i64 x,.int .i64 y,.int .i64 z] 33)))
 clear h h6
 go_enter Tryz.func33,Tryz.ntmps33
 go_wp2_with fail
 generalize wr.alloc (.cells #[.int .u8 kd,.int .i64 r,.int .i64 i,.int .i64 x,.int .i64 y,.int .i64 z] 33)=w0 at*
 generalize wr.heap.size=n0 at*
 have b0:w0.cell? ⟨n0,0,none⟩=some (.int .u8 kd):=HBk.out.cell 0 rfl
 go_wp2_with fail
 refine(HL.out.does HA.out HI.out).mono ?_
 rintro e w2 ⟨rfl,h2,hT⟩
 have HE2:=hid h2
 clear h2 hT
 go_wp2_with fail
 go_end0
 exact⟨rfl,_,_,HE2.out⟩
set_option maxHeartbeats 2000000 in
theorem La(h:jD w p c q k ph D hold wr)(hN:c.N≤1000)(hk:k≤1000)(r i x y z:Int)(hr:In64 r):
  Calls Tryz.prog 33 #[.pointer (some ⟨p.a,0,none⟩),.slice (some ⟨q,0,none⟩) (c.N+1) (c.N+1),.agg #[.int .u8 3,.int .i64 r,.int .i64 i,.int .i64 x,.int .i64 y,.int .i64 z]] wr (zZ w p c q k ph):=by
 have HNo:Hid (¬inG p wr.heap.size):=hid (fun hx=>h.1.Gb (Nat.le_refl _) (Or.inr hx))
 cases ha:D.iD r with
 |false=>
  have HBk:=hid (Blk.new wr #[.int .u8 3,.int .i64 r,.int .i64 i,.int .i64 x,.int .i64 y,.int .i64 z] 33)
  have HL:=hid (h.later (below_new wr (.cells #[.int .u8 3,.int .i64 r,.int .i64 i,.int .i64 x,.int .i64 y,.int .i64 z] 33)))
  have HA:=hid (vI (c:=c) hr ha)
  clear h hr ha
  go_enter Tryz.func33,Tryz.ntmps33
  go_wp2_with fail
  generalize wr.alloc (.cells #[.int .u8 3,.int .i64 r,.int .i64 i,.int .i64 x,.int .i64 y,.int .i64 z] 33)=w0 at*
  generalize wr.heap.size=n0 at*
  have b0:w0.cell? ⟨n0,0,none⟩=some (.int .u8 3):=HBk.out.cell 0 rfl
  have b1:w0.cell? ⟨n0,1,none⟩=some (.int .i64 r):=HBk.out.cell 1 rfl
  go_wp2_with fail
  refine(HL.out.does HA.out HL.out.2.1).mono ?_
  rintro e w2 ⟨rfl,h2,hT⟩
  have HE2:=hid h2.up
  clear h2 hT
  go_wp2_with fail
  go_end0
  exact⟨rfl,_,_,HE2.out⟩
 |true=>
  obtain⟨t,hf,hd⟩:=pM ha
  obtain⟨htl,er⟩:=find_live hf
  have HA:=hid (EE (c:=c) hf hd (h.refs hk hf))
  have HI:=hid (h.2.1.more (hold':=fun a=>hold a+if(a:Int)+1=r then 1 else 0) hf hd (fun _=>rfl))
  have hlt:t.h<c.N:=by
   obtain⟨zs,m,hG,hR,_⟩:=h.1
   exact hR.hlt htl
  have hbd:=h.2.1.li.bd t.h
  obtain⟨b,hbe⟩:∃b,b=t.h:=⟨_,rfl⟩
  obtain⟨j,hj⟩:∃j,j=b+1:=⟨_,rfl⟩
  obtain rfl:r=(j:Int):=by omega
  rw[←hbe] at hlt hbd
  obtain⟨hv,hve0⟩:∃v:Nat,v=hold b:=⟨_,rfl⟩
  have HVe:=hid hve0
  have hvb:hv≤1000:=by omega
  clear hve0
  have HBk:=hid (Blk.new wr #[.int .u8 3,.int .i64 (j:Int),.int .i64 i,.int .i64 x,.int .i64 y,.int .i64 z] 33)
  have HL:=hid (h.later (below_new wr (.cells #[.int .u8 3,.int .i64 (j:Int),.int .i64 i,.int .i64 x,.int .i64 y,.int .i64 z] 33)))
  have e2:IntKind.i64.wrap ((hv:Int)+1)=(hv:Int)+1:=IntWalk.i64_in _ (by omega)
  have hjl:j<c.N+1:=by omega
  have HJ:=hid hj
  clear h hr ha hf hd htl er hbe hj
  go_enter Tryz.func33,Tryz.ntmps33
  go_wp2_with fail
  generalize wr.alloc (.cells #[.int .u8 3,.int .i64 (j:Int),.int .i64 i,.int .i64 x,.int .i64 y,.int .i64 z] 33)=w0 at*
  generalize wr.heap.size=n0 at*
  have b0:w0.cell? ⟨n0,0,none⟩=some (.int .u8 3):=HBk.out.cell 0 rfl
  have b1:w0.cell? ⟨n0,1,none⟩=some (.int .i64 (j:Int)):=HBk.out.cell 1 rfl
  go_wp2_with fail
  refine(HL.out.1.does HA.out).mono ?_
  rintro e w2 ⟨rfl,h2,hT⟩
  have hj:=HJ.out
  have hq:=HL.out.2.2.2.1
  have hb2:=HL.out.2.2.1.touch hT (fun hx=>hq (Or.inr hx))
  have HB2:=hid (HBk.out.touch hT HNo.out)
  have HE2:=hid (jD.put (b:=b) (v:=(hv:Int)+1) h2 HI.out hb2 hq HL.out.2.2.2.2 hj (by show(hv:Int)+1=((hold b+(if(b:Int)+1=(j:Int) then 1 else 0):Nat):Int);rw[if_pos (show(b:Int)+1=(j:Int) by omega),←HVe.out];omega) (fun a hne=>by show hold a+(if(a:Int)+1=(j:Int) then 1 else 0)=hold a;rw[if_neg (show ¬(a:Int)+1=(j:Int) by omega)];rfl))
  have b1:=HB2.out.cell 1 rfl
  have cq:w2.cell? ⟨q,j,none⟩=some (.int .i64 (hv:Int)):=by rw[HVe.out];exact jD.cell hb2 hj hlt
  have fq:=hb2.free j
  have hz:q<w2.heap.size:=hb2.lt
  clear h2 hT hb2 b0 hlt hbd hj
  go_wp2_with fail
  go_end0
  exact⟨rfl,_,_,HE2.out⟩
set_option maxHeartbeats 2000000 in
theorem KZ(h:jD w p c q k ph D hold wr)(hN:c.N≤1000)(hk:k≤1000)(r i x y z:Int)(hr:In64 r):
  Calls Tryz.prog 33 #[.pointer (some ⟨p.a,0,none⟩),.slice (some ⟨q,0,none⟩) (c.N+1) (c.N+1),.agg #[.int .u8 2,.int .i64 r,.int .i64 i,.int .i64 x,.int .i64 y,.int .i64 z]] wr (zZ w p c q k ph):=by
 have HNo:Hid (¬inG p wr.heap.size):=hid (fun hx=>h.1.Gb (Nat.le_refl _) (Or.inr hx))
 have HBk:=hid (Blk.new wr #[.int .u8 2,.int .i64 r,.int .i64 i,.int .i64 x,.int .i64 y,.int .i64 z] 33)
 have HL:=hid (h.later (below_new wr (.cells #[.int .u8 2,.int .i64 r,.int .i64 i,.int .i64 x,.int .i64 y,.int .i64 z] 33)))
 have HE0:=hid HL.out.up
 by_cases h1:0<r
 ·by_cases h2:r<((c.N+1:Nat):Int)
  ·obtain⟨b,hb⟩:=Int.eq_ofNat_of_zero_le (show 0≤r-1 by omega)
   obtain⟨j,hj⟩:∃j,j=b+1:=⟨_,rfl⟩
   obtain rfl:r=(j:Int):=by omega
   have hlt:b<c.N:=by omega
   have hbd:=h.2.1.li.bd b
   have hzq:q<wr.heap.size:=h.2.2.1.lt
   by_cases h0:hold b=0
   ·have cw:wr.cell? ⟨q,j,none⟩=some (.int .i64 0):=by
     have:=jD.cell h.2.2.1 hj hlt
     rw[h0] at this
     exact this
    have cq:(wr.alloc (.cells #[.int .u8 2,.int .i64 (j:Int),.int .i64 i,.int .i64 x,.int .i64 y,.int .i64 z] 33)).cell? ⟨q,j,none⟩=some (.int .i64 0):=by
     have:=jD.cell HL.out.2.2.1 hj hlt
     rw[h0] at this
     exact this
    have hjl:j<c.N+1:=by omega
    clear h hr hb h0 hbd hlt hj
    go_enter Tryz.func33,Tryz.ntmps33
    go_wp2_with fail
    go_end0
    exact⟨rfl,_,_,HE0.out⟩
   ·obtain⟨t,htl,eb,hd,hrf,hf⟩:=h.2.1.li.ML h0
    have hp:=h.1.pendBd h.2.1.li.san
    have hf:D.find (j:Int)=some t:=by rw[show(j:Int)=(b:Int)+1 by omega];exact hf
    have HA:=hid (MJ (c:=c) hf hd hrf hp.1 hp.2)
    have HI:=hid (h.2.1.less (r:=(j:Int)) (hold':=fun a=>hold a-if a=b then 1 else 0) (fun a=>by
     by_cases e:a=b
     ·rw[if_pos e,if_pos (by omega),e];omega
     ·rw[if_neg e,if_neg (by omega)];rfl))
    obtain⟨hv,hve0⟩:∃v:Nat,v=hold b:=⟨_,rfl⟩
    have hv1:0<hv:=by omega
    have hvb:hv≤1000:=by omega
    have hvp:(0:Int)<(hv:Int):=by omega
    have e2:IntKind.i64.wrap ((hv:Int)-1)=(hv:Int)-1:=IntWalk.i64_in _ (by omega)
    have cw:wr.cell? ⟨q,j,none⟩=some (.int .i64 (hv:Int)):=by rw[hve0];exact jD.cell h.2.2.1 hj hlt
    have cq:(wr.alloc (.cells #[.int .u8 2,.int .i64 (j:Int),.int .i64 i,.int .i64 x,.int .i64 y,.int .i64 z] 33)).cell? ⟨q,j,none⟩=some (.int .i64 (hv:Int)):=by rw[hve0];exact jD.cell HL.out.2.2.1 hj hlt
    have HVe:=hid hve0
    have hjl:j<c.N+1:=by omega
    have HE:Hid (∀w2,RSt w p c (D.less (j:Int)) w2→Touch (inG p) (wr.alloc (.cells #[.int .u8 2,.int .i64 (j:Int),.int .i64 i,.int .i64 x,.int .i64 y,.int .i64 z] 33)) w2→(jD w p c q (k+1) ph (D.less (j:Int)) (fun a=>hold a-if a=b then 1 else 0) (w2.setCell ⟨q,j,none⟩ (.int .i64 ((hv:Int)-1))))∧w2.cell? ⟨q,j,none⟩=some (.int .i64 (hv:Int))∧w2.frozen? ⟨q,j,none⟩=false∧q<w2.heap.size):=hid (fun w2 k2 hT=>by
     have hq:=HL.out.2.2.2.1
     have hb2:=HL.out.2.2.1.touch hT (fun hx=>hq (Or.inr hx))
     exact⟨jD.put (b:=b) (v:=(hv:Int)-1) k2 HI.out hb2 hq HL.out.2.2.2.2 hj (by have:=HVe.out;simp;omega) (fun a hne=>by simp[hne]),by rw[HVe.out];exact jD.cell hb2 hj hlt,hb2.free j,hb2.lt⟩)
    clear h hr hb hf hd htl hrf hp eb hve0 h0 hbd HI HVe hlt hj
    generalize (fun a=>hold a-if a=b then 1 else 0)=hold2 at*
    go_enter Tryz.func33,Tryz.ntmps33
    go_wp2_with fail
    refine(HL.out.1.does HA.out).mono ?_
    rintro e w2 ⟨rfl,h2,hT⟩
    have HB2:=hid (HBk.out.touch hT HNo.out)
    obtain⟨hE2,c2,fq,hz⟩:=HE.out w2 h2 hT
    have HE2:=hid hE2
    clear cw cq hE2
    have b1:=HB2.out.cell 1 rfl
    clear h2 hT
    go_wp2_with fail
    go_end0
    exact⟨rfl,_,_,HE2.out⟩
  ·clear h hr
   go_enter Tryz.func33,Tryz.ntmps33
   go_wp2_with fail
   go_end0
   exact⟨rfl,_,_,HE0.out⟩
 ·clear h hr
  go_enter Tryz.func33,Tryz.ntmps33
  go_wp2_with fail
  go_end0
  exact⟨rfl,_,_,HE0.out⟩
theorem yt(h:jD w p c q k ph D hold wr)(hN:c.N≤1000)(hk:k≤1000)(kd r i x y z:Int)(h0:0≤kd)(hr:In64 r)(hx:In64 x):
  Calls Tryz.prog 33 #[.pointer (some ⟨p.a,0,none⟩),.slice (some ⟨q,0,none⟩) (c.N+1) (c.N+1),.agg #[.int .u8 kd,.int .i64 r,.int .i64 i,.int .i64 x,.int .i64 y,.int .i64 z]] wr (zZ w p c q k ph):=by
 by_cases h6:6≤kd
 ·exact Ld h hk kd r i x y z h6
 ·have:kd=0∨kd=1∨kd=2∨kd=3∨kd=4∨kd=5:=by omega
  rcases this with rfl|rfl|rfl|rfl|rfl|rfl
  ·exact KX h hN r i x y z
  ·exact KY h hk r i x y z hr hx
  ·exact KZ h hN hk r i x y z hr
  ·exact La h hN hk r i x y z hr
  ·exact Lb h r i x y z
  ·exact Lc h r i x y z
end
section
variable {w wr w':World} {p:Pl} {c:Cf} {q k:Nat} {D D':Wd} {hold hold':Nat→Nat} {ph:Int} {t u:Th}
theorem fV.LA(I:fV hold k D)(S:San D')(h:D'.ts=D.ts):fV hold k D':=⟨S,I.nam.ts h,I.pos.ts h,I.bd,fun b hb=>I.out b (by
 have hl:D'.live=D.live:=by unfold Wd.live;rw[h]
 rw[hl] at hb
 exact hb)⟩
theorem gK.kZ(O:gK c hold k 0 D):gK c hold (k+2) 1 (D.turn.begin 1):=
 ⟨(O.li.LA (D':=D.turn.begin 1) (O.li.san.same_but rfl rfl rfl rfl (fun b hb=>.inl hb)) rfl).mono (by omega),O.tm.kZ O.phs,O.pi.turn.kZ 1,show(0:Int)≤100000 by decide,rfl⟩
def rhoC(N:Nat)(D:Wd):Nat:=((N:Int)*100002+100001-(D.cursor*100002+D.field)).toNat
theorem Nu{N:Nat}(hN:D.n=N)(hc:0≤D.cursor)(hf:0≤D.field)(hfl:D.field≤100000)(hs:∀t,t∈D.live→t.pt.length≤100000)(hb:D.dw=true):rhoC N D.tally+1≤rhoC N D:=by
 have hlt:D.cursor<(N:Int):=by
  unfold Wd.dw at hb
  rw[hN] at hb
  simp at hb
  exact hb.2
 have key:D.tally.cursor*100002+D.tally.field≥D.cursor*100002+D.field+1∧D.tally.cursor*100002+D.tally.field≤(N:Int)*100002+100000:=by
  unfold Wd.tally
  rw[hb,if_pos rfl]
  unfold Wd.fH
  have e1:(D.move (D.cursor+1) 0).cursor=D.cursor+1∧(D.move (D.cursor+1) 0).field=0:=⟨rfl,rfl⟩
  cases hfd:D.find (D.cursor+1) with
  |none=>
   simp only
   rw[e1.1,e1.2]
   omega
  |some t=>
   have ht:=hs t (find_live hfd).1
   simp only
   split
   ·rw[e1.1,e1.2]
    omega
   ·split
    ·show D.cursor*100002+(D.field+1)≥_∧D.cursor*100002+(D.field+1)≤_
     omega
    ·show(D.cursor+1)*100002+0≥_∧(D.cursor+1)*100002+0≤_
     omega
 unfold rhoC
 omega
theorem zf(n:Nat)(hn:n≤255)(w:World):(Instr.makeSlice 39 (.int .i64 (n:Int)) (.int .i64 (n:Int))).run Tryz.prog w=.ok (.slice (some ⟨w.heap.size,0,none⟩) n n) (w.alloc (.cells (ji (fun _=>.int .i64 0) n) 3)):=by
 obtain⟨i0,hi,hz0,hz1,hz2⟩:=info_parts oI
 have:=run_make w 39 3 i0 (.int .i64 0) Tryz.underlying39 hi hz0 .i64 .i64 (n:Int) (n:Int) (by omega) (Int.le_refl _) (by rw[hz2];omega) (by omega)
 rw[this,hz1,←Jb _ rfl]
 simp
theorem RSt.CZ(h:RSt w p c D wr):0≤D.cursor∧0≤D.field∧D.n=c.N:=by
 obtain⟨zs,m,hG,hR,_⟩:=h
 exact⟨(hR.CZ hG.wz).1.1,(hR.CZ hG.wz).2.1,hR.n⟩
end
def CS(w:World)(p:Pl)(c:Cf)(q k:Nat)(ph:Int)(D:Wd)(hold:Nat→Nat):TX.qf where
 r a b:=jD w p c q k ph D hold a→jD w p c q k ph D hold b
 refl _ h:=h
 trans h k x:=k (h x)
 below hb h:=h.later hb
theorem iM{w wr w':World}{p:Pl}{c:Cf}{q k:Nat}{ph:Int}{D:Wd}{hold:Nat→Nat}{f:FuncId}{args:List Value}{B:Nat}{v:Value}(hd:Does c D f args B D v)(h:jD w p c q k ph D hold wr)(hC:(CS w p c q k ph D hold).r wr w'):
  Calls Tryz.prog f (List.toArray (.pointer (some ⟨p.a,0,none⟩)::args)) w' fun e w''=>e=.returned v∧(CS w p c q k ph D hold).r w' w'':=
 ((hC h).does hd h.2.1).mono fun e w'' ⟨e1,e2,_⟩=>⟨e1,fun _=>e2⟩
set_option maxHeartbeats 4000000 in
theorem wo(n v:Nat)(cr ck:Int)(a:Option Addr)(cap:Nat)(rs:List (List Fld))(w:World)(h0:1≤n)(h1:n≤40)(h2:16≤v)(h3:v≤18)(h4:rs.length≤120)(hrs:Recs w a [.int .u8,.int .i64,.int .i64,.int .i64,.int .i64,.int .i64] rs):
  Calls Tryz.prog 6 #[.agg #[.int .i64 (n:Int),.int .i64 (v:Int),.int .i64 cr,.int .i64 ck],.slice a rs.length cap] w fun e w'=>e=.returned (.bool true)∧Below w.heap.size w w':=by
 have hm:(Cf.mk n v 1 1).May:=by
  have e1:(n:Int)*(v:Int)≤40*18:=Int.mul_le_mul (by omega) (by omega) (by omega) (by omega)
  constructor<;>simp<;>omega
 have HO:=hid (fun wz=>qI EU ⟨n,v,1,1⟩ wz hm (by show n≤10000;omega))
 have HRs:=hid hrs
 have g0:¬(n:Int)<1:=by omega
 have g1:¬40<(n:Int):=by omega
 have g2:¬(v:Int)<16:=by omega
 have g3:¬18<(v:Int):=by omega
 have g4:¬120<(rs.length:Int):=by omega
 have HN:Hid (0<n∧n≤40∧rs.length≤120∧16≤v):=hid ⟨h0,h1,h4,h2⟩
 have ewn:IntKind.i64.wrap ((n:Int)+1)=(n:Int)+1:=IntWalk.i64_in _ (by omega)
 clear hrs hm h0 h1 h2 h3 h4
 go_enter Tryz.func6,Tryz.ntmps6
 go_wp2_with fail
 have HB0:=hid (below_new w (.cells #[.int .i64 (n:Int),.int .i64 (v:Int),.int .i64 1,.int .i64 1] 23))
 have HCf:=hid (Blk.new w #[.int .i64 (n:Int),.int .i64 (v:Int),.int .i64 1,.int .i64 1] 23)
 have HCl:Hid (w.heap.size<(w.alloc (.cells #[.int .i64 (n:Int),.int .i64 (v:Int),.int .i64 1,.int .i64 1] 23)).heap.size):=hid (by simp)
 generalize hw0:w.alloc (.cells #[.int .i64 (n:Int),.int .i64 (v:Int),.int .i64 1,.int .i64 1] 23)=w0 at*
 refine(HO.out w0).mono ?_
 rintro e w1 ⟨p,q0,lo,rfl,hS,_,_,_,_⟩
 have hmk:=zf (n+1) (by have:=HN.out.2.1;omega) w1
 rw[show((n+1:Nat):Int)=(n:Int)+1 by omega] at hmk
 have f0:w1.cell? ⟨w.heap.size,0,none⟩=some (.int .i64 (n:Int)):=(HCf.out.below hS.below HCl.out).cell 0 rfl
 have HL0:Hid (jD w0 p ⟨n,v,1,1⟩ w1.heap.size 0 0 (Wd.new n v) (fun _=>0) (w1.alloc (.cells (ji (fun _=>.int .i64 0) (n+1)) 3))):=hid ⟨hS.later (below_new _ _),gK.new (c:=⟨n,v,1,1⟩) HN.out.2.2.2,by
  have hz:(fun i=>Value.int .i64 ((hN (fun _=>0) i:Nat):Int))=(fun _=>Value.int .i64 0):=funext (fun i=>by unfold hN;split<;>rfl)
  rw[hz]
  exact Blk.new _ _ _,hS.Gb (Nat.le_refl _),hS.below.size⟩
 clear hS
 go_wp2_with fail
 generalize w1.alloc (.cells (ji (fun _=>.int .i64 0) (n+1)) 3)=w2 at*
 generalize w1.heap.size=q at*
 clear hmk f0
 have hq3:Int.tdiv (rs.length:Int) 3=((rs.length/3:Nat):Int):=by rw[Int.tdiv_eq_ediv_of_nonneg (by omega)];rfl
 obtain⟨q3,hq3e⟩:∃q3:Nat,q3=rs.length/3:=⟨_,rfl⟩
 rw[←hq3e] at hq3
 have hw3:wrap64 (q3:Int)=(q3:Int):=IntWalk.wrap64_in _ (by have:=HN.out;omega)
 have HQ3:Hid (q3=rs.length/3):=hid hq3e
 clear hq3e
 go_loopw [52] (fun i wr=>∃k:Nat,k≤rs.length∧i=.int .i64 (k:Int)∧∃D hold,jD w0 p ⟨n,v,1,1⟩ q (3*k) (if k≤q3 then 0 else 1) D hold wr) (fun i _=>rs.length-(intOf i).toNat)
 case atStart=>exact⟨0,Nat.zero_le _,rfl,_,_,by rw[if_pos (Nat.zero_le _)];exact HL0.out⟩
 case round=>
  obtain⟨k,hk,rfl,D,hold,hS⟩:=hrel
  have HBe:Hid (Below w.heap.size w wr):=hid (below_step HB0.out hS.1.below)
  by_cases hlt:k<rs.length
  ·obtain⟨b,off,kd,r,i,x,y,z,rfl,hb0,x0,x1,x2,x3,x4,x5,hkd,hr,hx⟩:=KH HRs.out hlt
   have y0:=(HBe.out.cell (p:=⟨b,off+k*6,none⟩) hb0).trans x0
   have y1:=(HBe.out.cell (p:=⟨b,off+k*6+1,none⟩) hb0).trans x1
   have y2:=(HBe.out.cell (p:=⟨b,off+k*6+2,none⟩) hb0).trans x2
   have y3:=(HBe.out.cell (p:=⟨b,off+k*6+3,none⟩) hb0).trans x3
   have y4:=(HBe.out.cell (p:=⟨b,off+k*6+4,none⟩) hb0).trans x4
   have y5:=(HBe.out.cell (p:=⟨b,off+k*6+5,none⟩) hb0).trans x5
   have HIn:Hid (0≤kd∧In64 r∧In64 x):=hid ⟨hkd,hr,hx⟩
   have HBx:=hid (Blk.new wr #[.int .u8 kd,.int .i64 r,.int .i64 i,.int .i64 x,.int .i64 y,.int .i64 z] 33)
   have HS1:=hid (hS.later (below_new wr (.cells #[.int .u8 kd,.int .i64 r,.int .i64 i,.int .i64 x,.int .i64 y,.int .i64 z] 33)))
   have HNg:Hid (¬inG p wr.heap.size):=hid (fun hx=>hS.1.Gb (Nat.le_refl _) (Or.inr hx))
   clear hS hkd hr hx x0 x1 x2 x3 x4 x5 hb0
   by_cases hkq:k=q3
   ·have hkb:((k:Int)==(q3:Int))=true:=by rw[beq_iff_eq];omega
    have hO:=HS1.out.2.1
    rw[if_pos (show k≤q3 by omega)] at hO
    have HOb:=hid hO.kZ
    obtain⟨vt,ht⟩:=tintFns.turn ⟨n,v,1,1⟩ D
    have HTu:=hid ht
    have HBe2:=hid (ld_begin (c:=⟨n,v,1,1⟩) (D:=D.turn) 1 (by decide) (by decide))
    have HKq:=hid hkq
    clear hO ht hkq
    go_wp2_with fail
    generalize wr.alloc (.cells #[.int .u8 kd,.int .i64 r,.int .i64 i,.int .i64 x,.int .i64 y,.int .i64 z] 33)=wa at*
    generalize wr.heap.size=na at*
    clear y0 y1 y2 y3 y4 y5
    refine(HS1.out.1.does HTu.out).mono ?_
    rintro e w3 ⟨rfl,h3,hT3⟩
    have HS3:=hid h3
    have HB3:=hid (HBx.out.touch hT3 HNg.out)
    have HQ3b:=hid (HS1.out.2.2.1.touch hT3 (fun hx=>HS1.out.2.2.2.1 (Or.inr hx)))
    clear h3 hT3
    go_wp2_with fail
    refine(HS3.out.does HBe2.out).mono ?_
    rintro e w4 ⟨rfl,h4,hT4⟩
    have HB4:=hid (HB3.out.touch hT4 HNg.out)
    have HS4:Hid (jD w0 p ⟨n,v,1,1⟩ q (3*k+2) 1 (D.turn.begin 1) hold w4):=hid ⟨h4,HOb.out,HQ3b.out.touch hT4 (fun hx=>HS1.out.2.2.2.1 (Or.inr hx)),HS1.out.2.2.2⟩
    clear h4 hT4
    have HA:=hid (yt HS4.out (by show n≤1000;have:=HN.out.2.1;omega) (by have:=HN.out.2.2.1;omega) kd r i x y z HIn.out.1 HIn.out.2.1 HIn.out.2.2)
    have b0:=HB4.out.cell 0 rfl
    have b1:=HB4.out.cell 1 rfl
    have b2:=HB4.out.cell 2 rfl
    have b3:=HB4.out.cell 3 rfl
    have b4:=HB4.out.cell 4 rfl
    have b5:=HB4.out.cell 5 rfl
    go_wp2_with fail
    refine HA.out.mono ?_
    rintro e w5 ⟨rfl,D',hold',hS'⟩
    have HS5:Hid (jD w0 p ⟨n,v,1,1⟩ q (3*(k+1)) (if k+1≤q3 then 0 else 1) D' hold' w5):=hid (by rw[if_neg (by have:=HKq.out;omega),show 3*(k+1)=3*k+2+1 by omega];exact hS')
    clear hS'
    go_wp2_with fail
    go_roundw
    case rel=>exact⟨k+1,by omega,by go_num,D',hold',HS5.out⟩
    case measure=>first|(simp[intOf];done)|(simp[intOf];omega)
   ·have hkb:((k:Int)==(q3:Int))=false:=by rw[beq_eq_false_iff_ne];omega
    have HA:=hid (yt HS1.out (by show n≤1000;have:=HN.out.2.1;omega) (by have:=HN.out.2.2.1;omega) kd r i x y z HIn.out.1 HIn.out.2.1 HIn.out.2.2)
    go_wp2_with fail
    refine HA.out.mono ?_
    rintro e w5 ⟨rfl,D',hold',hS'⟩
    have HS5:Hid (jD w0 p ⟨n,v,1,1⟩ q (3*(k+1)) (if k+1≤q3 then 0 else 1) D' hold' w5):=hid (by
     have e:(if k+1≤q3 then(0:Int) else 1)=if k≤q3 then 0 else 1:=by
      by_cases e1:k≤q3
      ·rw[if_pos e1,if_pos (by omega)]
      ·rw[if_neg e1,if_neg (by omega)]
     rw[e]
     exact⟨hS'.1,hS'.2.1.mono (by omega),hS'.2.2⟩)
    clear hS'
    go_wp2_with fail
    go_roundw
    case rel=>exact⟨k+1,by omega,by go_num,D',hold',HS5.out⟩
    case measure=>first|(simp[intOf];done)|(simp[intOf];omega)
  ·obtain rfl:k=rs.length:=by omega
   by_cases hl3:(rs.length:Int)<3
   ·clear hS
    go_wp2_with fail
    refine(begun16_any _).mono ?_
    rintro e w9 ⟨rfl,hb⟩
    have HB9:=hid (below_step HBe.out hb)
    clear hb
    go_wp2_with fail
    go_ret
    exact⟨rfl,HB9.out⟩
   ·rw[if_neg (show ¬rs.length≤q3 by have:=HQ3.out;omega)] at hS
    obtain⟨μ,hμ⟩:=IV (fun m wr=>∃D K,jD w0 p ⟨n,v,1,1⟩ q K 1 D hold wr∧K+m≤5000000∧rhoC n D≤m)
    have HM:=hid hμ
    have HS0:Hid (∃m,∃D K,jD w0 p ⟨n,v,1,1⟩ q K 1 D hold wr∧K+m≤5000000∧rhoC n D≤m):=hid ⟨rhoC n D,D,_,hS,by
     have h1:=hS.1.CZ
     have h2:=HN.out.2.1
     have h3:=HN.out.2.2.1
     unfold rhoC
     omega,Nat.le_refl _⟩
    clear hS hμ
    go_wp2_with fail
    generalize hwr:wr=wr0 at*
    clear hwr
    go_loopw [] (fun wr=>∃m,∃D K,jD w0 p ⟨n,v,1,1⟩ q K 1 D hold wr∧K+m≤5000000∧rhoC n D≤m) (fun wr=>μ wr)
    case atStart=>exact HS0.out
    case round=>
     obtain⟨m0,hm0⟩:=hrel
     obtain⟨⟨D,K,hS,hK,hrh⟩,_⟩:=HM.out wr m0 hm0
     clear hm0
     have HS:=hid hS
     have hcu:=hS.1.CZ
     have HTy:=hid (ld_tally (c:=⟨n,v,1,1⟩) hS.2.1.li.san (fun q=>by have:=hS.2.1.pi.bd.shd q;omega))
     cases hb:D.dw with
     |true=>
      rw[hb] at HTy
      have hlt:=Nu (N:=n) hcu.2.2 hcu.1 hcu.2.1 hS.2.1.fl hS.1.sizes hb
      have HI:=hid (hS.2.1.tally hcu.2.1 hS.1.sizes)
      obtain⟨m,hme⟩:∃m,m+1=μ wr:=⟨μ wr-1,by omega⟩
      have HK:Hid (K+1+m≤5000000∧rhoC n D.tally≤m):=hid ⟨by omega,by omega⟩
      clear hS hcu hK hrh hlt hb
      go_wp2_with fail
      refine(HS.out.does HTy.out HI.out).mono ?_
      rintro e w3 ⟨rfl,h3,_⟩
      have HS3:Hid (∃D K,jD w0 p ⟨n,v,1,1⟩ q K 1 D hold w3∧K+m≤5000000∧rhoC n D≤m):=hid ⟨_,_,h3,HK.out.1,HK.out.2⟩
      clear h3
      go_wp2_with fail
      go_roundw
      case rel=>exact⟨m,HS3.out⟩
      case measure=>
       have:=(HM.out w3 m HS3.out).2
       omega
     |false=>
      rw[hb] at HTy
      have HTy2:=hid (HTy.out.as rfl (tally_idle hb))
      have HEd:=hid (fun(s:Th) (hs:s∈D.live)=>hS.2.1.tm.end_ (N:=n) hS.2.1.li.san hcu.2.2 hb hS.2.1.phs (fun t ht=>by
       obtain⟨zs,m,hG,hR,_⟩:=hS.1
       exact hR.hlt ht) hs)
      have HBd:=hid (fun y=>hS.1.nmBd hS.2.1.li.san y)
      have HKb:Hid (K≤5000000):=hid (by omega)
      clear hS hcu hK hrh hb HTy
      go_wp2_with fail
      refine(HS.out.does HTy2.out HS.out.2.1).mono ?_
      rintro e w3 ⟨rfl,h3,_⟩
      have HS3:=hid h3
      clear h3
      go_wp2_with fail
      generalize hwr:w3=wr3 at*
      clear hwr
      go_loopw [11] (fun i wr=>∃J:Nat,1≤J∧J≤n+1∧i=.int .i64 (J:Int)∧jD w0 p ⟨n,v,1,1⟩ q K 1 D hold wr) (fun i _=>n+1-(intOf i).toNat)
      case atStart=>exact⟨1,Nat.le_refl _,by omega,rfl,HS3.out⟩
      case round=>
       obtain⟨J,hJ1,hJ,rfl,hS⟩:=hrel
       have f0:wr.cell? ⟨w.heap.size,0,none⟩=some (.int .i64 (n:Int)):=(HCf.out.below hS.1.below HCl.out).cell 0 rfl
       have HS:=hid hS
       have hn40:=HN.out.2.1
       by_cases hlt2:J≤n
       ·have hle:(J:Int)≤(n:Int):=by omega
        have h64:In64 (J:Int):=by unfold In64;omega
        have hjl:J<n+1:=by omega
        have hji:(J:Int)<(n:Int)+1:=by omega
        have hj0:(0:Int)≤(J:Int):=by omega
        cases hf:D.find (J:Int) with
        |none=>
         have HI:=hid ((Ey (c:=⟨n,v,1,1⟩) (D:=D) h64).as (vb (show(D.find (J:Int)).isSome=false by rw[hf];rfl)) rfl)
         clear hS hf
         go_wp2_with fail
         refine TX.bK (T:=CS w0 p ⟨n,v,1,1⟩ q K 1 D hold) [TX.ai.is (.pointer (some ⟨p.a,0,none⟩)),TX.ai.is (.int .i64 (J:Int)),TX.ai.is (.bool false),TX.ai.is (.bool false),TX.ai.is undef,TX.ai.is undef,TX.ai.is undef,TX.ai.is undef,TX.ai.is (.bool false),TX.ai.is (.bool false),TX.ai.is undef,TX.ai.is undef,TX.ai.is undef,TX.ai.is undef,TX.ai.is (.bool false),TX.ai.is (.bool false),TX.ai.is undef,TX.ai.is undef,TX.ai.is undef,TX.ai.is undef,TX.ai.is undef,TX.ai.is undef,TX.ai.is undef,TX.ai.is undef,TX.ai.is undef,TX.ai.is undef,TX.ai.is undef,TX.ai.is undef,TX.ai.is (.bool false)] (by kernel_rfl) (by kernel_rfl) rfl (by kernel_rfl) (fun ops K2 hops hK=> ?_)
         refine TX.aa (TX.ah rfl) (fun w' hC hd=>TX.au _ (.inl rfl) rfl) (by go_frame;rfl) (by simp only[List.nil_append,List.cons_append];rfl) ?_
         refine TX.aa (TX.ah rfl) (fun w' hC hd=>TX.au _ (.inl rfl) rfl) (by go_frame;rfl) (by simp only[List.nil_append,List.cons_append];rfl) ?_
         refine TX.aa (TX.ah rfl) (fun w' hC hd=>TX.dR 83 (.pointer (some ⟨p.a,0,none⟩)) 84 (.int .i64 (J:Int)) rfl rfl (fun ρ hρ hf e0 e1=>TX.bG (f:=34) (by go_simp) (iM HI.out HS.out hC))) (by go_frame;rfl) (by simp only[List.nil_append,List.cons_append];rfl) ?_
         refine TX.aa (TX.ah rfl) (fun w' hC hd=>TX.au _ (.inl rfl) rfl) (by go_frame;rfl) (by simp only[List.nil_append,List.cons_append];rfl) ?_
         refine TX.ak (TX.aC hops rfl rfl rfl rfl) (by go_frame;rfl) (by simp only[List.nil_append,List.cons_append];rfl) ?_
         refine TX.ak (TX.aC hops rfl rfl rfl rfl) (by go_frame;rfl) (by simp only[List.nil_append,List.cons_append];rfl) ?_
         refine TX.ak (TX.aC hops rfl rfl rfl rfl) (by go_frame;rfl) (by simp only[List.nil_append,List.cons_append];rfl) ?_
         refine TX.ak (TX.aC hops rfl rfl rfl rfl) (by go_frame;rfl) (by simp only[List.nil_append,List.cons_append];rfl) ?_
         refine TX.aa (TX.ah rfl) (fun w' hC hd=>TX.dM _ _ _ false rfl rfl rfl) (by go_frame;rfl) (by simp only[List.nil_append,List.cons_append];rfl) ?_
         refine TX.aa (TX.ah rfl) (fun w' hC hd=>TX.au _ (.inl rfl) rfl) (by go_frame;rfl) (by simp only[List.nil_append,List.cons_append];rfl) ?_
         refine TX.ak (TX.aC hops rfl rfl rfl rfl) (by go_frame;rfl) (by simp only[List.nil_append,List.cons_append];rfl) ?_
         refine TX.ak (TX.aC hops rfl rfl rfl rfl) (by go_frame;rfl) (by simp only[List.nil_append,List.cons_append];rfl) ?_
         refine TX.ak (TX.aC hops rfl rfl rfl rfl) (by go_frame;rfl) (by simp only[List.nil_append,List.cons_append];rfl) ?_
         refine TX.ak (TX.aC hops rfl rfl rfl rfl) (by go_frame;rfl) (by simp only[List.nil_append,List.cons_append];rfl) ?_
         refine TX.aa (TX.ah rfl) (fun w' hC hd=>TX.dM _ _ _ false rfl rfl rfl) (by go_frame;rfl) (by simp only[List.nil_append,List.cons_append];rfl) ?_
         refine TX.aa (TX.ah rfl) (fun w' hC hd=>TX.au _ (.inl rfl) rfl) (by go_frame;rfl) (by simp only[List.nil_append,List.cons_append];rfl) ?_
         refine TX.ak (TX.aC hops rfl rfl rfl rfl) (by go_frame;rfl) (by simp only[List.nil_append,List.cons_append];rfl) ?_
         refine TX.ak (TX.aC hops rfl rfl rfl rfl) (by go_frame;rfl) (by simp only[List.nil_append,List.cons_append];rfl) ?_
         refine TX.ak (TX.aC hops rfl rfl rfl rfl) (by go_frame;rfl) (by simp only[List.nil_append,List.cons_append];rfl) ?_
         refine TX.ak (TX.aC hops rfl rfl rfl rfl) (by go_frame;rfl) (by simp only[List.nil_append,List.cons_append];rfl) ?_
         refine TX.ak (TX.aC hops rfl rfl rfl rfl) (by go_frame;rfl) (by simp only[List.nil_append,List.cons_append];rfl) ?_
         refine TX.ak (TX.aC hops rfl rfl rfl rfl) (by go_frame;rfl) (by simp only[List.nil_append,List.cons_append];rfl) ?_
         refine TX.ak (TX.aC hops rfl rfl rfl rfl) (by go_frame;rfl) (by simp only[List.nil_append,List.cons_append];rfl) ?_
         refine TX.ak (TX.aC hops rfl rfl rfl rfl) (by go_frame;rfl) (by simp only[List.nil_append,List.cons_append];rfl) ?_
         refine TX.ak (TX.aC hops rfl rfl rfl rfl) (by go_frame;rfl) (by simp only[List.nil_append,List.cons_append];rfl) ?_
         refine TX.ak (TX.aC hops rfl rfl rfl rfl) (by go_frame;rfl) (by simp only[List.nil_append,List.cons_append];rfl) ?_
         refine TX.ak (TX.aC hops rfl rfl rfl rfl) (by go_frame;rfl) (by simp only[List.nil_append,List.cons_append];rfl) ?_
         refine TX.ak (TX.aC hops rfl rfl rfl rfl) (by go_frame;rfl) (by simp only[List.nil_append,List.cons_append];rfl) ?_
         refine TX.aa (TX.ah rfl) (fun w' hC hd=>TX.dM _ _ _ false rfl rfl rfl) (by go_frame;rfl) (by simp only[List.nil_append,List.cons_append];rfl) ?_
         refine TX.gu (fun w2 hC hk=>hK _ _ ?_)
         have HS9:=hid (hC HS.out)
         clear hC hk hK
         go_wp2_with fail
         go_roundw
         case rel=>exact⟨J+1,by omega,by omega,by go_num,HS9.out⟩
         case measure=>simp[intOf];omega
        |some t=>
         obtain⟨htl,er⟩:=find_live hf
         have HI:=hid ((Ey (c:=⟨n,v,1,1⟩) (D:=D) h64).as (vb (show(D.find (J:Int)).isSome=true by rw[hf];rfl)) rfl)
         have hdd:D.dead (J:Int)=t.mr.dead:=by unfold Wd.dead;rw[hf]
         have hbb:D.eY (J:Int)=decide (t.mr.color=D.parity):=by unfold Wd.eY;rw[hf]
         cases hd:t.mr.dead with
         |true=>
          have HD:=hid ((tintFns.dead ⟨n,v,1,1⟩ D (J:Int) h64).as (vb (hdd.trans hd)) rfl)
          clear hS hf hdd hbb htl er
          go_wp2_with fail
          refine TX.bK (T:=CS w0 p ⟨n,v,1,1⟩ q K 1 D hold) [TX.ai.is (.pointer (some ⟨p.a,0,none⟩)),TX.ai.is (.int .i64 (J:Int)),TX.ai.is (.bool true),TX.ai.is (.bool true),TX.ai.is (.pointer (some ⟨p.a,0,none⟩)),TX.ai.is (.int .i64 (J:Int)),TX.ai.is (.bool true),TX.ai.is (.bool false),TX.ai.is (.bool false),TX.ai.is (.bool false),TX.ai.is undef,TX.ai.is undef,TX.ai.is undef,TX.ai.is undef,TX.ai.is (.bool false),TX.ai.is (.bool false),TX.ai.is undef,TX.ai.is undef,TX.ai.is undef,TX.ai.is undef,TX.ai.is undef,TX.ai.is undef,TX.ai.is undef,TX.ai.is undef,TX.ai.is undef,TX.ai.is undef,TX.ai.is undef,TX.ai.is undef,TX.ai.is (.bool false)] (by kernel_rfl) (by kernel_rfl) rfl (by kernel_rfl) (fun ops K2 hops hK=> ?_)
          refine TX.aa (TX.ah rfl) (fun w' hC hd=>TX.au _ (.inl rfl) rfl) (by go_frame;rfl) (by simp only[List.nil_append,List.cons_append];rfl) ?_
          refine TX.aa (TX.ah rfl) (fun w' hC hd=>TX.au _ (.inl rfl) rfl) (by go_frame;rfl) (by simp only[List.nil_append,List.cons_append];rfl) ?_
          refine TX.aa (TX.ah rfl) (fun w' hC hd=>TX.dR 83 (.pointer (some ⟨p.a,0,none⟩)) 84 (.int .i64 (J:Int)) rfl rfl (fun ρ hρ hf e0 e1=>TX.bG (f:=34) (by go_simp) (iM HI.out HS.out hC))) (by go_frame;rfl) (by simp only[List.nil_append,List.cons_append];rfl) ?_
          refine TX.aa (TX.ah rfl) (fun w' hC hd=>TX.au _ (.inl rfl) rfl) (by go_frame;rfl) (by simp only[List.nil_append,List.cons_append];rfl) ?_
          refine TX.aa (TX.aY hops rfl rfl rfl rfl) (fun w' hC hd=>TX.au _ (.inl rfl) rfl) (by go_frame;rfl) (by simp only[List.nil_append,List.cons_append];rfl) ?_
          refine TX.aa (TX.aY hops rfl rfl rfl rfl) (fun w' hC hd=>TX.au _ (.inl rfl) rfl) (by go_frame;rfl) (by simp only[List.nil_append,List.cons_append];rfl) ?_
          refine TX.aa (TX.aY hops rfl rfl rfl rfl) (fun w' hC hd=>TX.dR 87 (.pointer (some ⟨p.a,0,none⟩)) 88 (.int .i64 (J:Int)) rfl rfl (fun ρ hρ hf e0 e1=>TX.bG (f:=35) (by go_simp) (iM HD.out HS.out hC))) (by go_frame;rfl) (by simp only[List.nil_append,List.cons_append];rfl) ?_
          refine TX.aa (TX.aY hops rfl rfl rfl rfl) (fun w' hC hd=>TX.aJ 89 (.bool true) rfl (fun ρ hρ hf e0=>TX.aO (by go_simp))) (by go_frame;rfl) (by simp only[List.nil_append,List.cons_append];rfl) ?_
          refine TX.aa (TX.ah rfl) (fun w' hC hd=>TX.dM _ _ _ true rfl rfl rfl) (by go_frame;rfl) (by simp only[List.nil_append,List.cons_append];rfl) ?_
          refine TX.aa (TX.ah rfl) (fun w' hC hd=>TX.au _ (.inl rfl) rfl) (by go_frame;rfl) (by simp only[List.nil_append,List.cons_append];rfl) ?_
          refine TX.ak (TX.aC hops rfl rfl rfl rfl) (by go_frame;rfl) (by simp only[List.nil_append,List.cons_append];rfl) ?_
          refine TX.ak (TX.aC hops rfl rfl rfl rfl) (by go_frame;rfl) (by simp only[List.nil_append,List.cons_append];rfl) ?_
          refine TX.ak (TX.aC hops rfl rfl rfl rfl) (by go_frame;rfl) (by simp only[List.nil_append,List.cons_append];rfl) ?_
          refine TX.ak (TX.aC hops rfl rfl rfl rfl) (by go_frame;rfl) (by simp only[List.nil_append,List.cons_append];rfl) ?_
          refine TX.aa (TX.ah rfl) (fun w' hC hd=>TX.dM _ _ _ false rfl rfl rfl) (by go_frame;rfl) (by simp only[List.nil_append,List.cons_append];rfl) ?_
          refine TX.aa (TX.ah rfl) (fun w' hC hd=>TX.au _ (.inl rfl) rfl) (by go_frame;rfl) (by simp only[List.nil_append,List.cons_append];rfl) ?_
          refine TX.ak (TX.aC hops rfl rfl rfl rfl) (by go_frame;rfl) (by simp only[List.nil_append,List.cons_append];rfl) ?_
          refine TX.ak (TX.aC hops rfl rfl rfl rfl) (by go_frame;rfl) (by simp only[List.nil_append,List.cons_append];rfl) ?_
          refine TX.ak (TX.aC hops rfl rfl rfl rfl) (by go_frame;rfl) (by simp only[List.nil_append,List.cons_append];rfl) ?_
          refine TX.ak (TX.aC hops rfl rfl rfl rfl) (by go_frame;rfl) (by simp only[List.nil_append,List.cons_append];rfl) ?_
          refine TX.ak (TX.aC hops rfl rfl rfl rfl) (by go_frame;rfl) (by simp only[List.nil_append,List.cons_append];rfl) ?_
          refine TX.ak (TX.aC hops rfl rfl rfl rfl) (by go_frame;rfl) (by simp only[List.nil_append,List.cons_append];rfl) ?_
          refine TX.ak (TX.aC hops rfl rfl rfl rfl) (by go_frame;rfl) (by simp only[List.nil_append,List.cons_append];rfl) ?_
          refine TX.ak (TX.aC hops rfl rfl rfl rfl) (by go_frame;rfl) (by simp only[List.nil_append,List.cons_append];rfl) ?_
          refine TX.ak (TX.aC hops rfl rfl rfl rfl) (by go_frame;rfl) (by simp only[List.nil_append,List.cons_append];rfl) ?_
          refine TX.ak (TX.aC hops rfl rfl rfl rfl) (by go_frame;rfl) (by simp only[List.nil_append,List.cons_append];rfl) ?_
          refine TX.ak (TX.aC hops rfl rfl rfl rfl) (by go_frame;rfl) (by simp only[List.nil_append,List.cons_append];rfl) ?_
          refine TX.ak (TX.aC hops rfl rfl rfl rfl) (by go_frame;rfl) (by simp only[List.nil_append,List.cons_append];rfl) ?_
          refine TX.aa (TX.ah rfl) (fun w' hC hd=>TX.dM _ _ _ false rfl rfl rfl) (by go_frame;rfl) (by simp only[List.nil_append,List.cons_append];rfl) ?_
          refine TX.gu (fun w2 hC hk=>hK _ _ ?_)
          have HS9:=hid (hC HS.out)
          clear hC hk hK
          go_wp2_with fail
          go_roundw
          case rel=>exact⟨J+1,by omega,by omega,by go_num,HS9.out⟩
          case measure=>simp[intOf];omega
         |false=>
          have HD:=hid ((tintFns.dead ⟨n,v,1,1⟩ D (J:Int) h64).as (vb (hdd.trans hd)) rfl)
          by_cases hcl:t.mr.color=D.parity
          ·have HBl:=hid ((tintFns.eY ⟨n,v,1,1⟩ D (J:Int) h64).as (vb (hbb.trans (decide_eq_true hcl))) rfl)
           clear hS hf hdd hbb htl er
           go_wp2_with fail
           refine TX.bK (T:=CS w0 p ⟨n,v,1,1⟩ q K 1 D hold) [TX.ai.is (.pointer (some ⟨p.a,0,none⟩)),TX.ai.is (.int .i64 (J:Int)),TX.ai.is (.bool true),TX.ai.is (.bool true),TX.ai.is (.pointer (some ⟨p.a,0,none⟩)),TX.ai.is (.int .i64 (J:Int)),TX.ai.is (.bool false),TX.ai.is (.bool true),TX.ai.is (.bool true),TX.ai.is (.bool true),TX.ai.is (.pointer (some ⟨p.a,0,none⟩)),TX.ai.is (.int .i64 (J:Int)),TX.ai.is (.bool true),TX.ai.is (.bool false),TX.ai.is (.bool false),TX.ai.is (.bool false),TX.ai.is undef,TX.ai.is undef,TX.ai.is undef,TX.ai.is undef,TX.ai.is undef,TX.ai.is undef,TX.ai.is undef,TX.ai.is undef,TX.ai.is undef,TX.ai.is undef,TX.ai.is undef,TX.ai.is undef,TX.ai.is (.bool false)] (by kernel_rfl) (by kernel_rfl) rfl (by kernel_rfl) (fun ops K2 hops hK=> ?_)
           refine TX.aa (TX.ah rfl) (fun w' hC hd=>TX.au _ (.inl rfl) rfl) (by go_frame;rfl) (by simp only[List.nil_append,List.cons_append];rfl) ?_
           refine TX.aa (TX.ah rfl) (fun w' hC hd=>TX.au _ (.inl rfl) rfl) (by go_frame;rfl) (by simp only[List.nil_append,List.cons_append];rfl) ?_
           refine TX.aa (TX.ah rfl) (fun w' hC hd=>TX.dR 83 (.pointer (some ⟨p.a,0,none⟩)) 84 (.int .i64 (J:Int)) rfl rfl (fun ρ hρ hf e0 e1=>TX.bG (f:=34) (by go_simp) (iM HI.out HS.out hC))) (by go_frame;rfl) (by simp only[List.nil_append,List.cons_append];rfl) ?_
           refine TX.aa (TX.ah rfl) (fun w' hC hd=>TX.au _ (.inl rfl) rfl) (by go_frame;rfl) (by simp only[List.nil_append,List.cons_append];rfl) ?_
           refine TX.aa (TX.aY hops rfl rfl rfl rfl) (fun w' hC hd=>TX.au _ (.inl rfl) rfl) (by go_frame;rfl) (by simp only[List.nil_append,List.cons_append];rfl) ?_
           refine TX.aa (TX.aY hops rfl rfl rfl rfl) (fun w' hC hd=>TX.au _ (.inl rfl) rfl) (by go_frame;rfl) (by simp only[List.nil_append,List.cons_append];rfl) ?_
           refine TX.aa (TX.aY hops rfl rfl rfl rfl) (fun w' hC hd=>TX.dR 87 (.pointer (some ⟨p.a,0,none⟩)) 88 (.int .i64 (J:Int)) rfl rfl (fun ρ hρ hf e0 e1=>TX.bG (f:=35) (by go_simp) (iM HD.out HS.out hC))) (by go_frame;rfl) (by simp only[List.nil_append,List.cons_append];rfl) ?_
           refine TX.aa (TX.aY hops rfl rfl rfl rfl) (fun w' hC hd=>TX.aJ 89 (.bool false) rfl (fun ρ hρ hf e0=>TX.aO (by go_simp))) (by go_frame;rfl) (by simp only[List.nil_append,List.cons_append];rfl) ?_
           refine TX.aa (TX.ah rfl) (fun w' hC hd=>TX.dM _ _ _ true rfl rfl rfl) (by go_frame;rfl) (by simp only[List.nil_append,List.cons_append];rfl) ?_
           refine TX.aa (TX.ah rfl) (fun w' hC hd=>TX.au _ (.inl rfl) rfl) (by go_frame;rfl) (by simp only[List.nil_append,List.cons_append];rfl) ?_
           refine TX.aa (TX.aY hops rfl rfl rfl rfl) (fun w' hC hd=>TX.au _ (.inl rfl) rfl) (by go_frame;rfl) (by simp only[List.nil_append,List.cons_append];rfl) ?_
           refine TX.aa (TX.aY hops rfl rfl rfl rfl) (fun w' hC hd=>TX.au _ (.inl rfl) rfl) (by go_frame;rfl) (by simp only[List.nil_append,List.cons_append];rfl) ?_
           refine TX.aa (TX.aY hops rfl rfl rfl rfl) (fun w' hC hd=>TX.dR 93 (.pointer (some ⟨p.a,0,none⟩)) 94 (.int .i64 (J:Int)) rfl rfl (fun ρ hρ hf e0 e1=>TX.bG (f:=36) (by go_simp) (iM HBl.out HS.out hC))) (by go_frame;rfl) (by simp only[List.nil_append,List.cons_append];rfl) ?_
           refine TX.aa (TX.aY hops rfl rfl rfl rfl) (fun w' hC hd=>TX.aJ 95 (.bool true) rfl (fun ρ hρ hf e0=>TX.aO (by go_simp))) (by go_frame;rfl) (by simp only[List.nil_append,List.cons_append];rfl) ?_
           refine TX.aa (TX.ah rfl) (fun w' hC hd=>TX.dM _ _ _ true rfl rfl rfl) (by go_frame;rfl) (by simp only[List.nil_append,List.cons_append];rfl) ?_
           refine TX.aa (TX.ah rfl) (fun w' hC hd=>TX.au _ (.inl rfl) rfl) (by go_frame;rfl) (by simp only[List.nil_append,List.cons_append];rfl) ?_
           refine TX.ak (TX.aC hops rfl rfl rfl rfl) (by go_frame;rfl) (by simp only[List.nil_append,List.cons_append];rfl) ?_
           refine TX.ak (TX.aC hops rfl rfl rfl rfl) (by go_frame;rfl) (by simp only[List.nil_append,List.cons_append];rfl) ?_
           refine TX.ak (TX.aC hops rfl rfl rfl rfl) (by go_frame;rfl) (by simp only[List.nil_append,List.cons_append];rfl) ?_
           refine TX.ak (TX.aC hops rfl rfl rfl rfl) (by go_frame;rfl) (by simp only[List.nil_append,List.cons_append];rfl) ?_
           refine TX.ak (TX.aC hops rfl rfl rfl rfl) (by go_frame;rfl) (by simp only[List.nil_append,List.cons_append];rfl) ?_
           refine TX.ak (TX.aC hops rfl rfl rfl rfl) (by go_frame;rfl) (by simp only[List.nil_append,List.cons_append];rfl) ?_
           refine TX.ak (TX.aC hops rfl rfl rfl rfl) (by go_frame;rfl) (by simp only[List.nil_append,List.cons_append];rfl) ?_
           refine TX.ak (TX.aC hops rfl rfl rfl rfl) (by go_frame;rfl) (by simp only[List.nil_append,List.cons_append];rfl) ?_
           refine TX.ak (TX.aC hops rfl rfl rfl rfl) (by go_frame;rfl) (by simp only[List.nil_append,List.cons_append];rfl) ?_
           refine TX.ak (TX.aC hops rfl rfl rfl rfl) (by go_frame;rfl) (by simp only[List.nil_append,List.cons_append];rfl) ?_
           refine TX.ak (TX.aC hops rfl rfl rfl rfl) (by go_frame;rfl) (by simp only[List.nil_append,List.cons_append];rfl) ?_
           refine TX.ak (TX.aC hops rfl rfl rfl rfl) (by go_frame;rfl) (by simp only[List.nil_append,List.cons_append];rfl) ?_
           refine TX.aa (TX.ah rfl) (fun w' hC hd=>TX.dM _ _ _ false rfl rfl rfl) (by go_frame;rfl) (by simp only[List.nil_append,List.cons_append];rfl) ?_
           refine TX.gu (fun w2 hC hk=>hK _ _ ?_)
           have HS9:=hid (hC HS.out)
           clear hC hk hK
           go_wp2_with fail
           go_roundw
           case rel=>exact⟨J+1,by omega,by omega,by go_num,HS9.out⟩
           case measure=>simp[intOf];omega
          ·have HBl:=hid ((tintFns.eY ⟨n,v,1,1⟩ D (J:Int) h64).as (vb (hbb.trans (decide_eq_false hcl))) rfl)
           obtain⟨M,hMe⟩:∃M:Nat,M=sumL (nmT (J:Int)) D.ts:=⟨_,rfl⟩
           obtain⟨hv,hve⟩:∃x:Nat,x=hold t.h:=⟨_,rfl⟩
           have hsh:D.shd (J:Int)=(M:Int):=by
            have h1:=HEd.out t htl hd hcl
            rw[er] at h1
            rw[h1,hMe]
           have hrf:D.cnt (J:Int)=(hv:Int)+(M:Int):=by
            have h1:=hS.2.1.li.nam.cnt t htl
            rw[er] at h1
            unfold Wd.cnt
            rw[hf]
            show t.mr.refs=_
            rw[h1,hMe,hve]
            omega
           have hMb:M≤4000000:=by
            have h1:=HBd.out (J:Int)
            have h2:100000*(Cf.mk n v 1 1).N≤100000*40:=Nat.mul_le_mul_left _ hn40
            omega
           have hvb:hv≤5000000:=by
            have:=hS.2.1.li.bd t.h
            have:=HKb.out
            omega
           have e2:IntKind.i64.wrap (hv:Int)=(hv:Int):=IntWalk.i64_in _ (by omega)
           have HC:=hid ((IE (c:=⟨n,v,1,1⟩) (D:=D) h64).as (vi hrf) rfl)
           have HSh:=hid ((tintFns.shadow ⟨n,v,1,1⟩ D (J:Int) h64).as (vi hsh) rfl)
           have HCell:∀w',(CS w0 p ⟨n,v,1,1⟩ q K 1 D hold).r wr w'→w'.cell? ⟨q,J,none⟩=some (.int .i64 (hv:Int)):=fun w' hC=>by
            have h1:=jD.cell (hC HS.out).2.2.1 (b:=t.h) (j:=J) (by omega) (by show t.h<n;omega)
            rw[hve]
            exact h1
           clear hS hf hdd hbb htl er hsh hrf hMe hve
           go_wp2_with fail
           refine TX.bK (T:=CS w0 p ⟨n,v,1,1⟩ q K 1 D hold) [TX.ai.is (.pointer (some ⟨p.a,0,none⟩)),TX.ai.is (.int .i64 (J:Int)),TX.ai.is (.bool true),TX.ai.is (.bool true),TX.ai.is (.pointer (some ⟨p.a,0,none⟩)),TX.ai.is (.int .i64 (J:Int)),TX.ai.is (.bool false),TX.ai.is (.bool true),TX.ai.is (.bool true),TX.ai.is (.bool true),TX.ai.is (.pointer (some ⟨p.a,0,none⟩)),TX.ai.is (.int .i64 (J:Int)),TX.ai.is (.bool false),TX.ai.is (.bool true),TX.ai.is (.bool true),TX.ai.is (.bool true),TX.ai.is (.pointer (some ⟨p.a,0,none⟩)),TX.ai.is (.int .i64 (J:Int)),TX.ai.is (.int .i64 ((hv:Int)+(M:Int))),TX.ai.is (.pointer (some ⟨p.a,0,none⟩)),TX.ai.is (.int .i64 (J:Int)),TX.ai.is (.int .i64 (M:Int)),TX.ai.is (.int .i64 (hv:Int)),TX.ai.is (.slice (some ⟨q,0,none⟩) (n+1) (n+1)),TX.ai.is (.int .i64 (J:Int)),TX.ai.is (.pointer (some ⟨q,J,none⟩)),TX.ai.is (.int .i64 (hv:Int)),TX.ai.is (.bool false),TX.ai.is (.bool false)] (by kernel_rfl) (by kernel_rfl) rfl (by kernel_rfl) (fun ops K2 hops hK=> ?_)
           refine TX.aa (TX.ah rfl) (fun w' hC hd=>TX.au _ (.inl rfl) rfl) (by go_frame;rfl) (by simp only[List.nil_append,List.cons_append];rfl) ?_
           refine TX.aa (TX.ah rfl) (fun w' hC hd=>TX.au _ (.inl rfl) rfl) (by go_frame;rfl) (by simp only[List.nil_append,List.cons_append];rfl) ?_
           refine TX.aa (TX.ah rfl) (fun w' hC hd=>TX.dR 83 (.pointer (some ⟨p.a,0,none⟩)) 84 (.int .i64 (J:Int)) rfl rfl (fun ρ hρ hf e0 e1=>TX.bG (f:=34) (by go_simp) (iM HI.out HS.out hC))) (by go_frame;rfl) (by simp only[List.nil_append,List.cons_append];rfl) ?_
           refine TX.aa (TX.ah rfl) (fun w' hC hd=>TX.au _ (.inl rfl) rfl) (by go_frame;rfl) (by simp only[List.nil_append,List.cons_append];rfl) ?_
           refine TX.aa (TX.aY hops rfl rfl rfl rfl) (fun w' hC hd=>TX.au _ (.inl rfl) rfl) (by go_frame;rfl) (by simp only[List.nil_append,List.cons_append];rfl) ?_
           refine TX.aa (TX.aY hops rfl rfl rfl rfl) (fun w' hC hd=>TX.au _ (.inl rfl) rfl) (by go_frame;rfl) (by simp only[List.nil_append,List.cons_append];rfl) ?_
           refine TX.aa (TX.aY hops rfl rfl rfl rfl) (fun w' hC hd=>TX.dR 87 (.pointer (some ⟨p.a,0,none⟩)) 88 (.int .i64 (J:Int)) rfl rfl (fun ρ hρ hf e0 e1=>TX.bG (f:=35) (by go_simp) (iM HD.out HS.out hC))) (by go_frame;rfl) (by simp only[List.nil_append,List.cons_append];rfl) ?_
           refine TX.aa (TX.aY hops rfl rfl rfl rfl) (fun w' hC hd=>TX.aJ 89 (.bool false) rfl (fun ρ hρ hf e0=>TX.aO (by go_simp))) (by go_frame;rfl) (by simp only[List.nil_append,List.cons_append];rfl) ?_
           refine TX.aa (TX.ah rfl) (fun w' hC hd=>TX.dM _ _ _ true rfl rfl rfl) (by go_frame;rfl) (by simp only[List.nil_append,List.cons_append];rfl) ?_
           refine TX.aa (TX.ah rfl) (fun w' hC hd=>TX.au _ (.inl rfl) rfl) (by go_frame;rfl) (by simp only[List.nil_append,List.cons_append];rfl) ?_
           refine TX.aa (TX.aY hops rfl rfl rfl rfl) (fun w' hC hd=>TX.au _ (.inl rfl) rfl) (by go_frame;rfl) (by simp only[List.nil_append,List.cons_append];rfl) ?_
           refine TX.aa (TX.aY hops rfl rfl rfl rfl) (fun w' hC hd=>TX.au _ (.inl rfl) rfl) (by go_frame;rfl) (by simp only[List.nil_append,List.cons_append];rfl) ?_
           refine TX.aa (TX.aY hops rfl rfl rfl rfl) (fun w' hC hd=>TX.dR 93 (.pointer (some ⟨p.a,0,none⟩)) 94 (.int .i64 (J:Int)) rfl rfl (fun ρ hρ hf e0 e1=>TX.bG (f:=36) (by go_simp) (iM HBl.out HS.out hC))) (by go_frame;rfl) (by simp only[List.nil_append,List.cons_append];rfl) ?_
           refine TX.aa (TX.aY hops rfl rfl rfl rfl) (fun w' hC hd=>TX.aJ 95 (.bool false) rfl (fun ρ hρ hf e0=>TX.aO (by go_simp))) (by go_frame;rfl) (by simp only[List.nil_append,List.cons_append];rfl) ?_
           refine TX.aa (TX.ah rfl) (fun w' hC hd=>TX.dM _ _ _ true rfl rfl rfl) (by go_frame;rfl) (by simp only[List.nil_append,List.cons_append];rfl) ?_
           refine TX.aa (TX.ah rfl) (fun w' hC hd=>TX.au _ (.inl rfl) rfl) (by go_frame;rfl) (by simp only[List.nil_append,List.cons_append];rfl) ?_
           refine TX.aa (TX.aY hops rfl rfl rfl rfl) (fun w' hC hd=>TX.au _ (.inl rfl) rfl) (by go_frame;rfl) (by simp only[List.nil_append,List.cons_append];rfl) ?_
           refine TX.aa (TX.aY hops rfl rfl rfl rfl) (fun w' hC hd=>TX.au _ (.inl rfl) rfl) (by go_frame;rfl) (by simp only[List.nil_append,List.cons_append];rfl) ?_
           refine TX.aa (TX.aY hops rfl rfl rfl rfl) (fun w' hC hd=>TX.dR 99 (.pointer (some ⟨p.a,0,none⟩)) 100 (.int .i64 (J:Int)) rfl rfl (fun ρ hρ hf e0 e1=>TX.bG (f:=37) (by go_simp) (iM HC.out HS.out hC))) (by go_frame;rfl) (by simp only[List.nil_append,List.cons_append];rfl) ?_
           refine TX.aa (TX.aY hops rfl rfl rfl rfl) (fun w' hC hd=>TX.au _ (.inl rfl) rfl) (by go_frame;rfl) (by simp only[List.nil_append,List.cons_append];rfl) ?_
           refine TX.aa (TX.aY hops rfl rfl rfl rfl) (fun w' hC hd=>TX.au _ (.inl rfl) rfl) (by go_frame;rfl) (by simp only[List.nil_append,List.cons_append];rfl) ?_
           refine TX.aa (TX.aY hops rfl rfl rfl rfl) (fun w' hC hd=>TX.dR 102 (.pointer (some ⟨p.a,0,none⟩)) 103 (.int .i64 (J:Int)) rfl rfl (fun ρ hρ hf e0 e1=>TX.bG (f:=30) (by go_simp) (iM HSh.out HS.out hC))) (by go_frame;rfl) (by simp only[List.nil_append,List.cons_append];rfl) ?_
           refine TX.aa (TX.aY hops rfl rfl rfl rfl) (fun w' hC hd=>TX.dR 101 (.int .i64 ((hv:Int)+(M:Int))) 104 (.int .i64 (M:Int)) rfl rfl (fun ρ hρ hf e0 e1=>TX.aO (by have hb0:=e2;go_simp))) (by go_frame;rfl) (by simp only[List.nil_append,List.cons_append];rfl) ?_
           refine TX.aa (TX.aY hops rfl rfl rfl rfl) (fun w' hC hd=>TX.au _ (.inl rfl) rfl) (by go_frame;rfl) (by simp only[List.nil_append,List.cons_append];rfl) ?_
           refine TX.aa (TX.aY hops rfl rfl rfl rfl) (fun w' hC hd=>TX.au _ (.inl rfl) rfl) (by go_frame;rfl) (by simp only[List.nil_append,List.cons_append];rfl) ?_
           refine TX.aa (TX.aY hops rfl rfl rfl rfl) (fun w' hC hd=>TX.dR 106 (.slice (some ⟨q,0,none⟩) (n+1) (n+1)) 107 (.int .i64 (J:Int)) rfl rfl (fun ρ hρ hf e0 e1=>TX.aO (by go_simp))) (by go_frame;rfl) (by simp only[List.nil_append,List.cons_append];rfl) ?_
           refine TX.aa (TX.aY hops rfl rfl rfl rfl) (fun w' hC hd=>TX.aJ 108 (.pointer (some ⟨q,J,none⟩)) rfl (fun ρ hρ hf e0=>TX.aO (by have hc0:=HCell w' hC;go_simp))) (by go_frame;rfl) (by simp only[List.nil_append,List.cons_append];rfl) ?_
           refine TX.aa (TX.aY hops rfl rfl rfl rfl) (fun w' hC hd=>TX.dR 105 (.int .i64 (hv:Int)) 109 (.int .i64 (hv:Int)) rfl rfl (fun ρ hρ hf e0 e1=>TX.aO (by have hb0:=(show((hv:Int)!=hv)=false by simp);go_simp))) (by go_frame;rfl) (by simp only[List.nil_append,List.cons_append];rfl) ?_
           refine TX.aa (TX.ah rfl) (fun w' hC hd=>TX.dM _ _ _ true rfl rfl rfl) (by go_frame;rfl) (by simp only[List.nil_append,List.cons_append];rfl) ?_
           refine TX.gu (fun w2 hC hk=>hK _ _ ?_)
           have HS9:=hid (hC HS.out)
           clear hC hk hK HCell
           go_wp2_with fail
           go_roundw
           case rel=>exact⟨J+1,by omega,by omega,by go_num,HS9.out⟩
           case measure=>simp[intOf];omega
       ·have hgt:¬(J:Int)≤(n:Int):=by omega
        have HBe:=hid (below_step HB0.out hS.1.below)
        clear hS
        go_wp2_with fail
        refine(begun16_any _).mono ?_
        rintro e w9 ⟨rfl,hb⟩
        have HB9:=hid (below_step HBe.out hb)
        clear hb
        go_wp2_with fail
        go_ret
        exact⟨rfl,HB9.out⟩
set_option maxHeartbeats 2000000 in
theorem wu(N V cr ck:Int)(a:Option Addr)(cap len:Nat)(w:World)(h:N<1∨40<N∨V<16∨18<V∨120<(len:Int)):
  Calls Tryz.prog 6 #[.agg #[.int .i64 N,.int .i64 V,.int .i64 cr,.int .i64 ck],.slice a len cap] w fun e w'=>e=.returned (.bool true)∧Below w.heap.size w w':=by
 by_cases g0:N<1
 ·clear h
  go_enter Tryz.func6,Tryz.ntmps6
  go_wp2_with fail
  refine(begun16_any _).mono ?_
  rintro e w9 ⟨rfl,hb⟩
  have HB9:=hid (below_step (below_new w (.cells #[.int .i64 N,.int .i64 V,.int .i64 cr,.int .i64 ck] 23)) hb)
  clear hb
  go_wp2_with fail
  go_ret
  exact⟨rfl,HB9.out⟩
 ·skip
  by_cases g1:40<N
  ·clear h
   go_enter Tryz.func6,Tryz.ntmps6
   go_wp2_with fail
   refine(begun16_any _).mono ?_
   rintro e w9 ⟨rfl,hb⟩
   have HB9:=hid (below_step (below_new w (.cells #[.int .i64 N,.int .i64 V,.int .i64 cr,.int .i64 ck] 23)) hb)
   clear hb
   go_wp2_with fail
   go_ret
   exact⟨rfl,HB9.out⟩
  ·skip
   by_cases g2:V<16
   ·clear h
    go_enter Tryz.func6,Tryz.ntmps6
    go_wp2_with fail
    refine(begun16_any _).mono ?_
    rintro e w9 ⟨rfl,hb⟩
    have HB9:=hid (below_step (below_new w (.cells #[.int .i64 N,.int .i64 V,.int .i64 cr,.int .i64 ck] 23)) hb)
    clear hb
    go_wp2_with fail
    go_ret
    exact⟨rfl,HB9.out⟩
   ·skip
    by_cases g3:18<V
    ·clear h
     go_enter Tryz.func6,Tryz.ntmps6
     go_wp2_with fail
     refine(begun16_any _).mono ?_
     rintro e w9 ⟨rfl,hb⟩
     have HB9:=hid (below_step (below_new w (.cells #[.int .i64 N,.int .i64 V,.int .i64 cr,.int .i64 ck] 23)) hb)
     clear hb
     go_wp2_with fail
     go_ret
     exact⟨rfl,HB9.out⟩
    ·skip
     have g4:120<(len:Int):=by omega
     clear h
     go_enter Tryz.func6,Tryz.ntmps6
     go_wp2_with fail
     refine(begun16_any _).mono ?_
     rintro e w9 ⟨rfl,hb⟩
     have HB9:=hid (below_step (below_new w (.cells #[.int .i64 N,.int .i64 V,.int .i64 cr,.int .i64 ck] 23)) hb)
     clear hb
     go_wp2_with fail
     go_ret
     exact⟨rfl,HB9.out⟩
theorem wm(N V cr ck:Int)(a:Option Addr)(cap:Nat)(rs:List (List Fld))(w:World)(hrs:Recs w a [.int .u8,.int .i64,.int .i64,.int .i64,.int .i64,.int .i64] rs):
  Calls Tryz.prog 6 #[.agg #[.int .i64 N,.int .i64 V,.int .i64 cr,.int .i64 ck],.slice a rs.length cap] w fun e w'=>e=.returned (.bool true)∧Below w.heap.size w w':=by
 by_cases h:N<1∨40<N∨V<16∨18<V∨120<(rs.length:Int)
 ·exact wu N V cr ck a cap _ w h
 ·have:=wo N.toNat V.toNat cr ck a cap rs w (by omega) (by omega) (by omega) (by omega) (by omega) hrs
  rw[show(N.toNat:Int)=N by omega,show(V.toNat:Int)=V by omega] at this
  exact this
end Go.Proofs.YtbhhfnlkpieebaaGreat.Pk
