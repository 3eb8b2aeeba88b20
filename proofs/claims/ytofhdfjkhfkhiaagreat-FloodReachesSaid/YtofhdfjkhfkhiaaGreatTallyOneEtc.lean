/-
  Texts laid together: TallyOne, FloodInv, FloodOne.
-/
import Derived.Test.YtofhdfjkhfkhiaaGreatRefSeeEtc
import Derived.Test.YtofhdfjkhfkhiaaGreatGravGrownEtc
import Derived.Test.YtofhdfjkhfkhiaaGreatWholeRowFEtc
import Derived.Test.YtofhdfjkhfkhiaaGreatFloodWEtc
namespace Go.Proofs.YtofhdfjkhfkhiaaGreat.Pk
open Lib (hid)
open Go.RowKit
set_option linter.unusedVariables false
set_option linter.unusedSimpArgs false
set_option maxRecDepth 100000
structure gN (c:Cf) (hold:Nat→Nat) (k:Nat) (ph:Int) (D:Wd):Prop where
 li:dH hold k D
 tm:TM D
 pi:PInv c k D
 fl:D.field≤100000
 phs:D.phase=ph
def hN(hold:Nat→Nat)(i:Nat):Nat:=if i=0 then 0 else hold (i-1)
def CX(w:World)(p:Pl)(c:Cf)(q k:Nat)(ph:Int)(D:Wd)(hold:Nat→Nat)(wr:World):Prop:=
 RSt w p c D wr∧gN c hold k ph D∧Blk wr q (arrV (fun i=>.int .i64 ((hN hold i:Nat):Int)) (c.N+1)) 3∧¬ofG p q∧w.heap.size≤q
section
variable {w wr w':World} {p:Pl} {c:Cf} {q k:Nat} {D D':Wd} {hold hold':Nat→Nat} {ph:Int} {t u:Th} {r x y i:Int}
theorem gN.mono{K:Nat}(O:gN c hold k ph D)(h:k≤K):gN c hold K ph D:=⟨O.li.mono h,O.tm,O.pi.mono h,O.fl,O.phs⟩
theorem gN.new{v:Nat}(hv:16≤v):gN c (fun _=>0) 0 0 (Wd.new c.N v):=⟨dH.new c.N hv,.inl ⟨rfl,Dyed.new _ _⟩,PInv.new c hv,show(0:Int)≤100000 by decide,rfl⟩
theorem gN.put(O:gN c hold k ph D)(hf:D.find r=some t)(hd:t.mr.dead=false){j:Nat}(hi:j<t.pt.length)(hx:x=0∨∃u,D.find x=some u∧u.mr.dead=false):gN c hold (k+1) ph (D.put r j x (nth t.pt j)):=
 ⟨(O.li.put hf hd hi hx).mono (Nat.le_succ k),O.tm.put O.li.san O.li.nam hf hd hi,O.pi.put hf hd j x _,by rw[(gZ r j x (nth t.pt j)).2.2.1];exact O.fl,(gZ r j x (nth t.pt j)).2.2.2.trans O.phs⟩
theorem gN.more(O:gN c hold k ph D)(hf:D.find r=some u)(hd:u.mr.dead=false)(hh:∀h:Nat,hold' h=hold h+if(h:Int)+1=r then 1 else 0):gN c hold' (k+1) ph (D.more r):=
 ⟨O.li.up hf hd hh,O.tm.up O.li.san r,O.pi.to (O.li.san.more r) (O.pi.bd.more r) (more_hd r),by rw[(bX r).2.2.1];exact O.fl,(bX r).2.2.2.trans O.phs⟩
theorem gN.less(O:gN c hold k ph D)(hh:∀h:Nat,hold h=hold' h+if(h:Int)+1=r then 1 else 0):gN c hold' (k+1) ph (D.less r):=
 ⟨(O.li.let hh).mono (Nat.le_succ k),O.tm.less O.li.san r,O.pi.to (O.li.san.less r) ((O.pi.bd.less r).mono (Nat.le_succ k)) (rA r),by rw[(eG r).2.2.1];exact O.fl,(eG r).2.2.2.trans O.phs⟩
theorem gN.born(O:gN c hold k ph D)(B:BornOk D x y c.N)(hE:D.mkE x y=0)(hh:∀h:Nat,hold' h=hold h+if h=D.mkB then 1 else 0):gN c hold' (k+1) ph (D.born x y):=
 ⟨O.li.born B hE hh,O.tm.born O.li.san B,O.pi.born B,by rw[fw.2.2.1];exact O.fl,fw.2.2.2.trans O.phs⟩
theorem RSt.fields(h:RSt w p c D wr):0≤D.field:=by
 obtain⟨zs,m,hG,hR,_⟩:=h
 exact(hR.curs hG.wz).2.1
theorem gN.step(O:gN c hold k ph D)(hF:0≤D.field):gN c hold (k+1) ph D.step:=
 gN.mono ⟨O.li.step,O.tm.step O.li.san O.li.nam hF,O.pi.step,by rw[fF.2.2.1];exact O.fl,fF.2.2.2.trans O.phs⟩ (Nat.le_succ k)
theorem Ay(h:D.field≤100000)(hs:∀t,t∈D.live→t.pt.length≤100000):D.tally.field≤100000:=by
 unfold Wd.tally
 split
 ·unfold Wd.tallyAt
  cases hf:D.find (D.cursor+1) with
  |none=>exact(show(0:Int)≤100000 by decide)
  |some t=>
   have:=hs t (find_live hf).1
   simp only
   split
   ·exact(show(0:Int)≤100000 by decide)
   ·split
    ·show D.field+1≤100000
     omega
    ·exact(show(0:Int)≤100000 by decide)
 ·exact h
theorem Nam.tally(N:Nam hold D)(S:San D):Nam hold D.tally:=by
 unfold Wd.tally
 split
 ·unfold Wd.tallyAt
  split
  ·exact N.ts rfl
  ·split
   ·exact N.ts rfl
   ·split
    ·exact(N.mark S _ (f:=fun m=>{m with shade:=D.parity,shadow:=D.shd (nth _ D.field.toNat)+1}) (fun _=>rfl) (fun _=>rfl)).ts rfl
    ·exact(N.mark S _ (f:=fun m=>{m with count:=D.parity}) (fun _=>rfl) (fun _=>rfl)).ts rfl
 ·exact N
theorem bF.tally(P:bF x D)(S:San D):bF x D.tally:=by
 unfold Wd.tally
 split
 ·unfold Wd.tallyAt
  split
  ·exact P.ts rfl
  ·split
   ·exact P.ts rfl
   ·split
    ·exact(P.mark S _ (f:=fun m=>{m with shade:=D.parity,shadow:=D.shd (nth _ D.field.toNat)+1}) (fun _=>rfl) (fun _ h=>h)).ts rfl
    ·exact(P.mark S _ (f:=fun m=>{m with count:=D.parity}) (fun _=>rfl) (fun _ h=>h)).ts rfl
 ·exact P
theorem IM:D.tally.live.map Th.h=D.live.map Th.h:=by
 unfold Wd.tally
 split
 ·unfold Wd.tallyAt
  split
  ·rfl
  ·split
   ·rfl
   ·split
    ·exact aP (D:=D) _ (fun m=>{m with shade:=D.parity,shadow:=D.shd (nth _ D.field.toNat)+1})
    ·exact aP (D:=D) _ (fun m=>{m with count:=D.parity})
 ·rfl
theorem dH.tally(I:dH hold k D):dH hold k D.tally:=⟨I.san.tally,I.nam.tally I.san,I.pos.tally I.san,I.bd,tC I IM⟩
theorem gN.tally(O:gN c hold k ph D)(hF:0≤D.field)(hs:∀t,t∈D.live→t.pt.length≤100000):gN c hold (k+1) ph D.tally:=
 ⟨O.li.tally.mono (Nat.le_succ k),O.tm.tally O.li.san hF,O.pi.tally,Ay O.fl hs,tally_phase.1.trans O.phs⟩
theorem CX.later(h:CX w p c q k ph D hold wr)(hb:Below wr.heap.size wr w'):CX w p c q k ph D hold w':=⟨h.1.later hb,h.2.1,h.2.2.1.later hb,h.2.2.2.1,h.2.2.2.2⟩
theorem CX.refs(h:CX w p c q k ph D hold wr)(hk:k≤1000)(hf:D.find r=some t):t.mr.refs<4294967295:=by
 have:=(h.2.1.pi.bd r t hf).1
 omega
theorem CX.up(h:CX w p c q k ph D hold wr):CX w p c q (k+1) ph D hold wr:=⟨h.1,h.2.1.mono (Nat.le_succ k),h.2.2⟩
theorem CX.does{K:Nat}{f:FuncId}{args:List Value}{B:Nat}{v:Value}(h:CX w p c q k ph D hold wr)(ha:Does c D f args B D' v)(I:gN c hold K ph D'):
  Calls Tryz.prog f (List.toArray (.pointer (some ⟨p.a,0,none⟩)::args)) wr fun e w'=>e=.returned v∧CX w p c q K ph D' hold w'∧Touch (inG p) wr w':=by
 refine(h.1.does ha).mono ?_
 rintro e w' ⟨rfl,h1,hT⟩
 exact⟨rfl,⟨h1,I,h.2.2.1.touch hT (fun hx=>h.2.2.2.1 (Or.inr hx)),h.2.2.2⟩,hT⟩
theorem CX.put(h:RSt w p c D wr)(I:gN c hold' k ph D)(hb:Blk wr q (arrV (fun i=>.int .i64 ((hN hold i:Nat):Int)) (c.N+1)) 3)(hq:¬ofG p q)(hl:w.heap.size≤q){b j:Nat}(hj:j=b+1){v:Int}(hv:v=((hold' b:Nat):Int))(hh:∀h,h≠b→hold' h=hold h):CX w p c q k ph D hold' (wr.setCell ⟨q,j,none⟩ (.int .i64 v)):=by
 subst hj
 have hT:=(Touch.refl (fun i=>i=q) wr).setCell (p:=⟨q,b+1,none⟩) (fun _=>rfl) (.int .i64 v)
 refine⟨h.touch hT (fun i hi e=>hq (e▸hi)) (fun i e=>by rw[e];exact hl),I,?_,hq,hl⟩
 have:=hb.set (b+1) (.int .i64 v)
 rw[arrV_set] at this
 rw[show arrV (fun i=>Value.int .i64 ((hN hold' i:Nat):Int)) (c.N+1)=arrV (fun j=>if j=b+1 then Value.int .i64 v else Value.int .i64 ((hN hold j:Nat):Int)) (c.N+1) from arrV_congr (fun j _=>by
  by_cases e:j=b+1
  ·rw[if_pos e,e,hv]
   rfl
  ·rw[if_neg e]
   unfold hN
   by_cases e0:j=0
   ·rw[if_pos e0,if_pos e0]
   ·rw[if_neg e0,if_neg e0,hh (j-1) (by omega)])]
 exact this
theorem CX.cell(h:Blk wr q (arrV (fun i=>.int .i64 ((hN hold i:Nat):Int)) (c.N+1)) 3){b j:Nat}(hj:j=b+1)(hb:b<c.N):wr.cell? ⟨q,j,none⟩=some (.int .i64 ((hold b:Nat):Int)):=by
 subst hj
 exact h.arr (show b+1<c.N+1 by omega)
end
section
variable {w wr:World} {p:Pl} {c:Cf} {q k:Nat} {D:Wd} {hold:Nat→Nat} {ph:Int}
end
section
variable {D D':Wd} {t u:Th} {r x:Int} {hold:Nat→Nat} {k:Nat} {c:Cf}
theorem flood_ind{P:Wd→Prop}(S:San D)(h0:P D)(hm:∀D r,San D→P D→P (D.settle r))(ht:∀D r,San D→P D→P (D.touch r))(hn:∀D D',P D→D'.ts=D.ts→(∀b,b∈D'.ring→b∈D.ring)→D'.clean=D.clean→D'.grave=D.grave→D'.pending=D.pending→D'.w=D.w→D'.n=D.n→P D'):P D.flood:=by
 unfold Wd.flood
 split
 ·split
  ·split
   ·rename_i b rest hr
    exact hn D _ h0 rfl (fun c hc=>by rw[hr];exact List.mem_cons_of_mem _ hc) rfl rfl rfl rfl rfl
   ·refine hn (D.lookT (D.cursor+1) (D.find (D.cursor+1))) D.lookAt ?_ rfl (fun _ h=>h) rfl rfl rfl rfl rfl
    unfold Wd.lookT
    split
    ·exact h0
    ·split
     ·exact h0
     ·split
      ·exact ht _ _ (S.settle _) (hm _ _ S h0)
      ·exact hm _ _ S h0
  ·unfold Wd.scanAt
   split
   ·exact hn D _ h0 rfl (fun _ h=>h) rfl rfl rfl rfl rfl
   ·split
    ·exact hn _ _ (ht _ _ S h0) rfl (fun _ h=>h) rfl rfl rfl rfl rfl
    ·exact hn D _ h0 rfl (fun _ h=>h) rfl rfl rfl rfl rfl
 ·exact h0
theorem Nam.flood(N:Nam hold D)(S:San D):Nam hold D.flood:=
 flood_ind (P:=Nam hold) S N (fun D r S N=>N.mark S r (f:=fun m=>{m with shade:=D.parity,shadow:=D.shd r}) (fun _=>rfl) (fun _=>rfl)) (fun D r S N=>N.touch S r) (fun D D' N h _ _ _ _ _ _=>N.ts h)
theorem bF.flood(N:bF x D)(S:San D):bF x D.flood:=
 flood_ind (P:=bF x) S N (fun D r S N=>N.mark S r (f:=fun m=>{m with shade:=D.parity,shadow:=D.shd r}) (fun _=>rfl) (fun _ h=>h)) (fun D r S N=>N.touch S r) (fun D D' N h _ _ _ _ _ _=>N.ts h)
theorem Gz(S:San D):D.flood.live.map Th.h=D.live.map Th.h:=
 flood_ind (P:=fun E=>E.live.map Th.h=D.live.map Th.h) S rfl (fun E r _ h=>(aP (D:=E) r (fun m=>{m with shade:=E.parity,shadow:=E.shd r})).trans h) (fun E r _ h=>(uo r).trans h) (fun E E' h e _ _ _ _ _ _=>by
  have:E'.live=E.live:=by unfold Wd.live;rw[e]
  rw[this]
  exact h)
theorem Gy(S:San D):D.flood.ts.map Th.h=D.ts.map Th.h:=
 flood_ind (P:=fun E=>E.ts.map Th.h=D.ts.map Th.h) S rfl (fun E r _ h=>(dP (D:=E) r (fun m=>{m with shade:=E.parity,shadow:=E.shd r})).trans h) (fun E r _ h=>(um r).trans h) (fun E E' h e _ _ _ _ _ _=>by rw[e];exact h)
theorem dH.flood(I:dH hold k D):dH hold k D.flood:=⟨I.san.flood,I.nam.flood I.san,I.pos.flood I.san,I.bd,tC I (Gz I.san)⟩
theorem dS.flood(h:dS k D)(S:San D):dS k D.flood:=
 flood_ind (P:=dS k) S h (fun E r _ h=>h.mark r (fun m=>{m with shade:=E.parity,shadow:=E.shd r}) (Nat.le_refl _) (fun t ht=>⟨(h r t ht).1,h.shd r⟩)) (fun E r _ h=>h.touch r) (fun E E' h e _ _ _ _ _ _=>h.ts e)
theorem PInv.flood(I:PInv c k D):PInv c k D.flood:=⟨I.san.flood,I.bd.flood I.san,by rw[Gy I.san];exact I.hd⟩
def FO(ph:Int)(D:Wd):Prop:=(ph=0∧D.phase=0)∨(ph=1∧(D.phase=1∨D.phase=2))
theorem FO.of{ph:Int}(h:FO ph D)(e:D'.phase=D.phase):FO ph D':=by
 unfold FO at*
 rw[e]
 exact h
end
structure FInv (c:Cf) (hold:Nat→Nat) (k:Nat) (ph:Int) (D:Wd):Prop where
 li:dH hold k D
 tm:FM hold D
 pi:PInv c k D
 fl:D.field≤100000
 phs:FO ph D
def FSt(w:World)(p:Pl)(c:Cf)(q k:Nat)(ph:Int)(D:Wd)(hold:Nat→Nat)(wr:World):Prop:=
 RSt w p c D wr∧FInv c hold k ph D∧Blk wr q (arrV (fun i=>.int .i64 ((hN hold i:Nat):Int)) (c.N+1)) 3∧¬ofG p q∧w.heap.size≤q
section
variable {w wr w':World} {p:Pl} {c:Cf} {q k:Nat} {D D':Wd} {hold hold':Nat→Nat} {ph:Int} {t u:Th} {r x y i:Int}
theorem FInv.mono{K:Nat}(O:FInv c hold k ph D)(h:k≤K):FInv c hold K ph D:=⟨O.li.mono h,O.tm,O.pi.mono h,O.fl,O.phs⟩
theorem FInv.new{v:Nat}(hv:16≤v):FInv c (fun _=>0) 0 0 (Wd.new c.N v):=⟨dH.new c.N hv,.idle rfl ⟨Dyed.new _ _,fun t ht=>by simp[Wd.new] at ht⟩,PInv.new c hv,show(0:Int)≤100000 by decide,.inl ⟨rfl,rfl⟩⟩
theorem FInv.put(O:FInv c hold k ph D)(hf:D.find r=some t)(hd:t.mr.dead=false){j:Nat}(hi:j<t.pt.length)(hx:x=0∨∃u,D.find x=some u∧u.mr.dead=false):FInv c hold (k+1) ph (D.put r j x (nth t.pt j)):=
 ⟨(O.li.put hf hd hi hx).mono (Nat.le_succ k),O.tm.put O.li.san O.li.nam hf hd hi,O.pi.put hf hd j x _,by rw[(gZ r j x (nth t.pt j)).2.2.1];exact O.fl,O.phs.of (gZ r j x (nth t.pt j)).2.2.2⟩
theorem FInv.more(O:FInv c hold k ph D)(hf:D.find r=some u)(hd:u.mr.dead=false)(hh:∀h:Nat,hold' h=hold h+if(h:Int)+1=r then 1 else 0):FInv c hold' (k+1) ph (D.more r):=
 ⟨O.li.up hf hd hh,O.tm.more O.li.san hh,O.pi.to (O.li.san.more r) (O.pi.bd.more r) (more_hd r),by rw[(bX r).2.2.1];exact O.fl,O.phs.of (bX r).2.2.2⟩
theorem FInv.less(O:FInv c hold k ph D)(hh:∀h:Nat,hold h=hold' h+if(h:Int)+1=r then 1 else 0):FInv c hold' (k+1) ph (D.less r):=
 ⟨(O.li.let hh).mono (Nat.le_succ k),O.tm.less O.li.san r (fun b=>by rw[hh];omega),O.pi.to (O.li.san.less r) ((O.pi.bd.less r).mono (Nat.le_succ k)) (rA r),by rw[(eG r).2.2.1];exact O.fl,O.phs.of (eG r).2.2.2⟩
theorem FInv.born(O:FInv c hold k ph D)(B:BornOk D x y c.N)(hE:D.mkE x y=0)(hh:∀h:Nat,hold' h=hold h+if h=D.mkB then 1 else 0):FInv c hold' (k+1) ph (D.born x y):=
 ⟨O.li.born B hE hh,O.tm.born O.li.san B hE hh,O.pi.born B,by rw[fw.2.2.1];exact O.fl,O.phs.of fw.2.2.2⟩
theorem FInv.step(O:FInv c hold k ph D)(hF:0≤D.field):FInv c hold (k+1) ph D.step:=
 FInv.mono ⟨O.li.step,O.tm.step O.li.san O.li.nam hF,O.pi.step,by rw[fF.2.2.1];exact O.fl,O.phs.of fF.2.2.2⟩ (Nat.le_succ k)
theorem FInv.tally(O:FInv c hold k ph D)(hF:0≤D.field)(hs:∀t,t∈D.live→t.pt.length≤100000):FInv c hold (k+1) ph D.tally:=
 ⟨O.li.tally.mono (Nat.le_succ k),O.tm.tally O.li.san hF,O.pi.tally,Ay O.fl hs,O.phs.of tally_phase.1⟩
theorem FInv.flood(O:FInv c hold k ph D)(hk:0≤D.cursor):FInv c hold (k+1) ph D.flood:=
 FInv.mono ⟨O.li.flood,O.tm.flood O.li.san O.li.nam hk,O.pi.flood,by rw[flood_phase.2.2];exact O.fl,O.phs.of flood_phase.1⟩ (Nat.le_succ k)
theorem dH.Lp(I:dH hold k D)(S:San D')(h:D'.ts=D.ts):dH hold k D':=⟨S,I.nam.ts h,I.pos.ts h,I.bd,fun b hb=>I.out b (by
 have hl:D'.live=D.live:=by unfold Wd.live;rw[h]
 rw[hl] at hb
 exact hb)⟩
theorem FInv.begin1(O:FInv c hold k 0 D):FInv c hold (k+2) 1 (D.turn.begin 1):=by
 have h0:D.phase=0:=by
  rcases O.phs with⟨_,h⟩|⟨h,_⟩
  ·exact h
  ·omega
 exact⟨(O.li.Lp (D':=D.turn.begin 1) (O.li.san.same_but rfl rfl rfl rfl (fun b hb=>.inl hb)) rfl).mono (by omega),O.tm.begin1 h0,O.pi.turn.begin_ 1,show(0:Int)≤100000 by decide,.inr ⟨rfl,.inl rfl⟩⟩
theorem FInv.begin2(O:FInv c hold k ph D)(h1:D.phase=1)(hn:D.n=c.N)(hb:D.tallyB=false)(hlt:∀t,t∈D.live→t.h<c.N):FInv c hold (k+1) ph (D.begin 2):=by
 have hp:ph=1:=by
  rcases O.phs with⟨_,h⟩|⟨h,_⟩
  ·omega
  ·exact h
 exact⟨(O.li.Lp (D':=D.begin 2) (O.li.san.same_but rfl rfl rfl rfl (fun b hb=>.inl hb)) rfl).mono (by omega),O.tm.begin2 h1 hn hb hlt,O.pi.begin_ 2,show(0:Int)≤100000 by decide,.inr ⟨hp,.inr rfl⟩⟩
theorem RSt.hlts(h:RSt w p c D wr):∀t,t∈D.live→t.h<c.N:=fun t ht=>by
 obtain⟨zs,m,hG,hR,_⟩:=h
 exact hR.hlt ht
theorem FSt.later(h:FSt w p c q k ph D hold wr)(hb:Below wr.heap.size wr w'):FSt w p c q k ph D hold w':=⟨h.1.later hb,h.2.1,h.2.2.1.later hb,h.2.2.2.1,h.2.2.2.2⟩
theorem FSt.refs(h:FSt w p c q k ph D hold wr)(hk:k≤1000)(hf:D.find r=some t):t.mr.refs<4294967295:=by
 have:=(h.2.1.pi.bd r t hf).1
 omega
theorem FSt.Jd(h:FSt w p c q (k+1) ph D hold wr):FSt w p c q (k+4) ph D hold wr:=⟨h.1,h.2.1.mono (by omega),h.2.2⟩
theorem FSt.up(h:FSt w p c q k ph D hold wr):FSt w p c q (k+1) ph D hold wr:=⟨h.1,h.2.1.mono (Nat.le_succ k),h.2.2⟩
theorem ER(h:FSt w p c q k ph D hold wr)(hk:k≤1000)(hr:In64 r)(hx:In64 x)(i:Int):∃B D' v,Does c D 32 [.int .i64 r,.int .i64 i,.int .i64 x] B D' (.int .i64 v)∧FInv c hold (k+1) ph D':=by
 have O:=h.2.1
 have hp:=h.1.pendBd O.li.san
 cases ha:D.aliveB r with
 |false=>exact⟨_,D,_,ld_Put_dead hr ha i x,O.mono (Nat.le_succ k)⟩
 |true=>
  obtain⟨t,hf,hd⟩:=aliveB_yes ha
  by_cases hi:0≤i∧i<(t.pt.length:Int)
  ·obtain⟨j,rfl⟩:=Int.eq_ofNat_of_zero_le hi.1
   have hj:j<t.pt.length:=by have:=hi.2;omega
   by_cases hx0:x=0
   ·exact⟨_,_,_,ld_Put O.li.san hf hd hj (.inl hx0) hp.1 hp.2,O.put hf hd hj (.inl hx0)⟩
   ·cases hxa:D.aliveB x with
    |false=>exact⟨_,D,_,ld_Put_arg O.li.san hf hd hj hx0 hx hxa,O.mono (Nat.le_succ k)⟩
    |true=>
     obtain⟨u,hu,hud⟩:=aliveB_yes hxa
     exact⟨_,_,_,ld_Put O.li.san hf hd hj (.inr ⟨u,hu,hud,h.refs hk hu⟩) hp.1 hp.2,O.put hf hd hj (.inr ⟨u,hu,hud⟩)⟩
  ·exact⟨_,D,_,ld_Put_wrong hf hd hi x,O.mono (Nat.le_succ k)⟩
theorem FSt.does{K:Nat}{f:FuncId}{args:List Value}{B:Nat}{v:Value}(h:FSt w p c q k ph D hold wr)(ha:Does c D f args B D' v)(I:FInv c hold K ph D'):
  Calls Tryz.prog f (List.toArray (.pointer (some ⟨p.a,0,none⟩)::args)) wr fun e w'=>e=.returned v∧FSt w p c q K ph D' hold w'∧Touch (inG p) wr w':=by
 refine(h.1.does ha).mono ?_
 rintro e w' ⟨rfl,h1,hT⟩
 exact⟨rfl,⟨h1,I,h.2.2.1.touch hT (fun hx=>h.2.2.2.1 (Or.inr hx)),h.2.2.2⟩,hT⟩
theorem FSt.put(h:RSt w p c D wr)(I:FInv c hold' k ph D)(hb:Blk wr q (arrV (fun i=>.int .i64 ((hN hold i:Nat):Int)) (c.N+1)) 3)(hq:¬ofG p q)(hl:w.heap.size≤q){b j:Nat}(hj:j=b+1){v:Int}(hv:v=((hold' b:Nat):Int))(hh:∀h,h≠b→hold' h=hold h):FSt w p c q k ph D hold' (wr.setCell ⟨q,j,none⟩ (.int .i64 v)):=by
 subst hj
 have hT:=(Touch.refl (fun i=>i=q) wr).setCell (p:=⟨q,b+1,none⟩) (fun _=>rfl) (.int .i64 v)
 refine⟨h.touch hT (fun i hi e=>hq (e▸hi)) (fun i e=>by rw[e];exact hl),I,?_,hq,hl⟩
 have:=hb.set (b+1) (.int .i64 v)
 rw[arrV_set] at this
 rw[show arrV (fun i=>Value.int .i64 ((hN hold' i:Nat):Int)) (c.N+1)=arrV (fun j=>if j=b+1 then Value.int .i64 v else Value.int .i64 ((hN hold j:Nat):Int)) (c.N+1) from arrV_congr (fun j _=>by
  by_cases e:j=b+1
  ·rw[if_pos e,e,hv]
   rfl
  ·rw[if_neg e]
   unfold hN
   by_cases e0:j=0
   ·rw[if_pos e0,if_pos e0]
   ·rw[if_neg e0,if_neg e0,hh (j-1) (by omega)])]
 exact this
theorem FSt.cell(h:Blk wr q (arrV (fun i=>.int .i64 ((hN hold i:Nat):Int)) (c.N+1)) 3){b j:Nat}(hj:j=b+1)(hb:b<c.N):wr.cell? ⟨q,j,none⟩=some (.int .i64 ((hold b:Nat):Int)):=by
 subst hj
 exact h.arr (show b+1<c.N+1 by omega)
end
def yF(w:World)(p:Pl)(c:Cf)(q k:Nat)(ph:Int)(e:Ending)(w':World):Prop:=e=.returned (.tuple #[])∧∃D hold,FSt w p c q (k+4) ph D hold w'
section
variable {w wr:World} {p:Pl} {c:Cf} {q k:Nat} {D:Wd} {hold:Nat→Nat} {ph:Int}
set_option maxHeartbeats 2000000 in
theorem Kg(h:FSt w p c q k ph D hold wr)(hN:c.N≤1000)(r i x y z:Int):
  Calls Tryz.prog 10 #[.pointer (some ⟨p.a,0,none⟩),.slice (some ⟨q,0,none⟩) (c.N+1) (c.N+1),.agg #[.int .u8 0,.int .i64 r,.int .i64 i,.int .i64 x,.int .i64 y,.int .i64 z]] wr (yF w p c q k ph):=by
 have HBk:=hid (Blk.new wr #[.int .u8 0,.int .i64 r,.int .i64 i,.int .i64 x,.int .i64 y,.int .i64 z] 34)
 have HL:=hid (h.later (below_new wr (.cells #[.int .u8 0,.int .i64 r,.int .i64 i,.int .i64 x,.int .i64 y,.int .i64 z] 34)))
 clear h
 go_enter Tryz.func10,Tryz.ntmps10
 go_wp2_with fail
 generalize wr.alloc (.cells #[.int .u8 0,.int .i64 r,.int .i64 i,.int .i64 x,.int .i64 y,.int .i64 z] 34)=w0 at*
 generalize wr.heap.size=n0 at*
 have b0:w0.cell? ⟨n0,0,none⟩=some (.int .u8 0):=HBk.out.cell 0 rfl
 have b4:w0.cell? ⟨n0,4,none⟩=some (.int .i64 y):=HBk.out.cell 4 rfl
 have b5:w0.cell? ⟨n0,5,none⟩=some (.int .i64 z):=HBk.out.cell 5 rfl
 go_wp2_with fail
 refine(Dw c D y z HL.out.1).mono ?_
 rintro e w2 ⟨rfl,h2,hT,hB⟩
 have hq:=HL.out.2.2.2.1
 have hb2:=HL.out.2.2.1.touch hT (fun hx=>hq (Or.inr hx))
 by_cases hE:D.mkE y z=0
 ·obtain⟨j,hj⟩:∃j,j=D.mkB+1:=⟨_,rfl⟩
  have eR:D.mkR y z=(j:Int):=by unfold Wd.mkR;rw[if_pos hE];omega
  have I2:=HL.out.2.1.born (hold':=fun h=>hold h+if h=D.mkB then 1 else 0) hB hE (fun _=>rfl)
  have hlt:=hB.lt hE
  have hh0:=HL.out.2.1.li.out _ (hB.fresh hE)
  have HE2:=hid (FSt.put (b:=D.mkB) (v:=1) h2 I2 hb2 hq HL.out.2.2.2.2 hj (by simp[hh0]) (fun h hne=>by simp[hne]))
  have hjl:j<c.N+1:=by omega
  rw[hE,eR]
  have cq:=FSt.cell hb2 hj hlt
  have fq:=hb2.free j
  generalize hold D.mkB=hv at*
  generalize D.mkB=b at*
  have hz:q<w2.heap.size:=hb2.lt
  clear h2 hT hB hb2 I2 hE eR hh0 b0 b4 b5 hj hlt
  go_wp2_with fail
  go_end0
  exact⟨rfl,_,_,HE2.out.Jd⟩
 ·have eD:D.born y z=D:=by unfold Wd.born;rw[if_neg hE]
  rw[eD] at h2
  have HE2:Hid (FSt w p c q (k+1) ph D hold w2):=hid ⟨h2,HL.out.2.1.mono (by omega),hb2,HL.out.2.2.2⟩
  have hEb:(D.mkE y z==0)=false:=by rw[beq_eq_false_iff_ne];exact hE
  clear h2 hT hB hb2 hE eD b0 b4 b5
  go_wp2_with fail
  go_end0
  exact⟨rfl,_,_,HE2.out.Jd⟩
set_option maxHeartbeats 2000000 in
theorem Kh(h:FSt w p c q k ph D hold wr)(hk:k≤1000)(r i x y z:Int)(hr:In64 r)(hx:In64 x):
  Calls Tryz.prog 10 #[.pointer (some ⟨p.a,0,none⟩),.slice (some ⟨q,0,none⟩) (c.N+1) (c.N+1),.agg #[.int .u8 1,.int .i64 r,.int .i64 i,.int .i64 x,.int .i64 y,.int .i64 z]] wr (yF w p c q k ph):=by
 obtain⟨B,D',v,hA,hI⟩:=ER h hk hr hx i
 have HA:=hid hA
 have HI:=hid hI
 have HBk:=hid (Blk.new wr #[.int .u8 1,.int .i64 r,.int .i64 i,.int .i64 x,.int .i64 y,.int .i64 z] 34)
 have HL:=hid (h.later (below_new wr (.cells #[.int .u8 1,.int .i64 r,.int .i64 i,.int .i64 x,.int .i64 y,.int .i64 z] 34)))
 clear h hA hI hr hx
 go_enter Tryz.func10,Tryz.ntmps10
 go_wp2_with fail
 generalize wr.alloc (.cells #[.int .u8 1,.int .i64 r,.int .i64 i,.int .i64 x,.int .i64 y,.int .i64 z] 34)=w0 at*
 generalize wr.heap.size=n0 at*
 have b0:w0.cell? ⟨n0,0,none⟩=some (.int .u8 1):=HBk.out.cell 0 rfl
 have b1:w0.cell? ⟨n0,1,none⟩=some (.int .i64 r):=HBk.out.cell 1 rfl
 have b2:w0.cell? ⟨n0,2,none⟩=some (.int .i64 i):=HBk.out.cell 2 rfl
 have b3:w0.cell? ⟨n0,3,none⟩=some (.int .i64 x):=HBk.out.cell 3 rfl
 go_wp2_with fail
 refine(HL.out.does HA.out HI.out).mono ?_
 rintro e w2 ⟨rfl,h2,hT⟩
 have HE2:=hid h2
 clear h2 hT
 go_wp2_with fail
 go_end0
 exact⟨rfl,_,_,HE2.out.Jd⟩
set_option maxHeartbeats 2000000 in
theorem Kk(h:FSt w p c q k ph D hold wr)(r i x y z:Int):
  Calls Tryz.prog 10 #[.pointer (some ⟨p.a,0,none⟩),.slice (some ⟨q,0,none⟩) (c.N+1) (c.N+1),.agg #[.int .u8 4,.int .i64 r,.int .i64 i,.int .i64 x,.int .i64 y,.int .i64 z]] wr (yF w p c q k ph):=by
 have HA:=hid (gd_Step (c:=c) h.2.1.li.san)
 have HI:=hid (h.2.1.step h.1.fields)
 have HBk:=hid (Blk.new wr #[.int .u8 4,.int .i64 r,.int .i64 i,.int .i64 x,.int .i64 y,.int .i64 z] 34)
 have HL:=hid (h.later (below_new wr (.cells #[.int .u8 4,.int .i64 r,.int .i64 i,.int .i64 x,.int .i64 y,.int .i64 z] 34)))
 clear h
 go_enter Tryz.func10,Tryz.ntmps10
 go_wp2_with fail
 generalize wr.alloc (.cells #[.int .u8 4,.int .i64 r,.int .i64 i,.int .i64 x,.int .i64 y,.int .i64 z] 34)=w0 at*
 generalize wr.heap.size=n0 at*
 have b0:w0.cell? ⟨n0,0,none⟩=some (.int .u8 4):=HBk.out.cell 0 rfl
 go_wp2_with fail
 refine(HL.out.does HA.out HI.out).mono ?_
 rintro e w2 ⟨rfl,h2,hT⟩
 have HE2:=hid h2
 clear h2 hT
 go_wp2_with fail
 go_end0
 exact⟨rfl,_,_,HE2.out.Jd⟩
set_option maxHeartbeats 2000000 in
theorem Kl(h:FSt w p c q k ph D hold wr)(r i x y z:Int):
  Calls Tryz.prog 10 #[.pointer (some ⟨p.a,0,none⟩),.slice (some ⟨q,0,none⟩) (c.N+1) (c.N+1),.agg #[.int .u8 5,.int .i64 r,.int .i64 i,.int .i64 x,.int .i64 y,.int .i64 z]] wr (yF w p c q k ph):=by
 have HA:=hid (gd_Step (c:=c) h.2.1.li.san)
 have HI:=hid (h.2.1.step h.1.fields)
 have HBk:=hid (Blk.new wr #[.int .u8 5,.int .i64 r,.int .i64 i,.int .i64 x,.int .i64 y,.int .i64 z] 34)
 have HL:=hid (h.later (below_new wr (.cells #[.int .u8 5,.int .i64 r,.int .i64 i,.int .i64 x,.int .i64 y,.int .i64 z] 34)))
 clear h
 go_enter Tryz.func10,Tryz.ntmps10
 go_wp2_with fail
 generalize wr.alloc (.cells #[.int .u8 5,.int .i64 r,.int .i64 i,.int .i64 x,.int .i64 y,.int .i64 z] 34)=w0 at*
 generalize wr.heap.size=n0 at*
 have b0:w0.cell? ⟨n0,0,none⟩=some (.int .u8 5):=HBk.out.cell 0 rfl
 go_wp2_with fail
 refine(HL.out.does HA.out HI.out).mono ?_
 rintro e w2 ⟨rfl,h2,hT⟩
 have HE2:=hid h2
 clear h2 hT
 go_wp2_with fail
 go_end0
 exact⟨rfl,_,_,HE2.out.Jd⟩
set_option maxHeartbeats 2000000 in
theorem Km(h:FSt w p c q k ph D hold wr)(hk:k≤990)(kd r i x y z:Int)(h6:6≤kd):
  Calls Tryz.prog 10 #[.pointer (some ⟨p.a,0,none⟩),.slice (some ⟨q,0,none⟩) (c.N+1) (c.N+1),.agg #[.int .u8 kd,.int .i64 r,.int .i64 i,.int .i64 x,.int .i64 y,.int .i64 z]] wr (yF w p c q k ph):=by
 have k0:(kd==0)=false:=by rw[beq_eq_false_iff_ne];omega
 have k1:(kd==1)=false:=by rw[beq_eq_false_iff_ne];omega
 have k2:(kd==2)=false:=by rw[beq_eq_false_iff_ne];omega
 have k3:(kd==3)=false:=by rw[beq_eq_false_iff_ne];omega
 have k4:(kd==4)=false:=by rw[beq_eq_false_iff_ne];omega
 have k5:(kd==5)=false:=by rw[beq_eq_false_iff_ne];omega
 have HBk:=hid (Blk.new wr #[.int .u8 kd,.int .i64 r,.int .i64 i,.int .i64 x,.int .i64 y,.int .i64 z] 34)
 have HL:Hid (∃D,FSt w p c q (k+0) ph D hold (wr.alloc (.cells #[.int .u8 kd,.int .i64 r,.int .i64 i,.int .i64 x,.int .i64 y,.int .i64 z] 34))):=hid ⟨D,h.later (below_new wr (.cells #[.int .u8 kd,.int .i64 r,.int .i64 i,.int .i64 x,.int .i64 y,.int .i64 z] 34))⟩
 have HK:=hid hk
 clear h h6 hk
 go_enter Tryz.func10,Tryz.ntmps10
 go_wp2_with fail
 generalize wr.alloc (.cells #[.int .u8 kd,.int .i64 r,.int .i64 i,.int .i64 x,.int .i64 y,.int .i64 z] 34)=w0 at*
 generalize wr.heap.size=n0 at*
 have b0:w0.cell? ⟨n0,0,none⟩=some (.int .u8 kd):=HBk.out.cell 0 rfl
 go_wp2_with fail
 clear b0
 go_loopw [10] (fun i wx=>∃j:Nat,j≤4∧i=.int .i64 (j:Int)∧∃D,FSt w p c q (k+j) ph D hold wx) (fun i _=>4-(intOf i).toNat)
 case atStart=>exact⟨0,by omega,rfl,HL.out⟩
 case round=>
  obtain⟨j,hj,rfl,D,hS⟩:=hrel
  have HS:=hid hS
  by_cases hlt:j<4
  ·have hcu:=hS.1.cursF
   have HTy:=hid (ld_tally (c:=c) hS.2.1.li.san (fun q=>by have h1:=hS.2.1.pi.bd.shd q;have h2:=HK.out;omega))
   have hl4:(j:Int)<4:=by omega
   cases hb:D.tallyB with
   |true=>
    rw[hb] at HTy
    have HI:=hid (hS.2.1.tally hS.1.fields hS.1.sizes)
    clear hS hcu hb
    go_wp2_with fail
    refine(HS.out.does HTy.out HI.out).mono ?_
    rintro e w2 ⟨rfl,h2,_⟩
    have HS2:Hid (FSt w p c q (k+(j+1)) ph D.tally hold w2):=hid h2
    clear h2
    go_wp2_with fail
    go_roundw
    case rel=>exact⟨j+1,by omega,by go_num,D.tally,HS2.out⟩
    case measure=>simp[intOf];omega
   |false=>
    rw[hb] at HTy
    have HTy2:=hid (HTy.out.as rfl (tally_idle hb))
    have HFl:=hid (ld_flood (c:=c) hS.2.1.li.san)
    cases hfb:D.floodB with
    |true=>
     rw[hfb] at HFl
     have HI:=hid (hS.2.1.flood hcu.1)
     clear hS hcu hb hfb HTy
     go_wp2_with fail
     refine(HS.out.does HTy2.out HS.out.2.1).mono ?_
     rintro e w2 ⟨rfl,h2,_⟩
     have HS2:=hid h2
     clear h2
     go_wp2_with fail
     refine(HS2.out.does HFl.out HI.out).mono ?_
     rintro e w3 ⟨rfl,h3,_⟩
     have HS3:Hid (FSt w p c q (k+(j+1)) ph D.flood hold w3):=hid h3
     clear h3
     go_wp2_with fail
     go_roundw
     case rel=>exact⟨j+1,by omega,by go_num,D.flood,HS3.out⟩
     case measure=>simp[intOf];omega
    |false=>
     rw[hfb] at HFl
     have HFl2:=hid (HFl.out.as rfl (eF hfb))
     have HPh:=hid (tintFns.phase c D)
     by_cases hp:D.phase=1
     ·rw[hp] at HPh
      have HBe:=hid (ld_begin (c:=c) (D:=D) 2 (by decide) (by decide))
      have HI:=hid (hS.2.1.begin2 hp hcu.2.2.1 hb hS.1.hlts)
      clear hS hcu hb hfb HTy HFl hp
      go_wp2_with fail
      refine(HS.out.does HTy2.out HS.out.2.1).mono ?_
      rintro e w2 ⟨rfl,h2,_⟩
      have HS2:=hid h2
      clear h2
      go_wp2_with fail
      refine(HS2.out.does HFl2.out HS2.out.2.1).mono ?_
      rintro e w3 ⟨rfl,h3,_⟩
      have HS3:=hid h3
      clear h3
      go_wp2_with fail
      refine(HS3.out.does HPh.out HS3.out.2.1).mono ?_
      rintro e w4 ⟨rfl,h4,_⟩
      have HS4:=hid h4
      clear h4
      go_wp2_with fail
      refine(HS4.out.does HBe.out HI.out).mono ?_
      rintro e w5 ⟨rfl,h5,_⟩
      have HS5:Hid (FSt w p c q (k+(j+1)) ph (D.begin 2) hold w5):=hid h5
      clear h5
      go_wp2_with fail
      go_roundw
      case rel=>exact⟨j+1,by omega,by go_num,D.begin 2,HS5.out⟩
      case measure=>simp[intOf];omega
     ·have hpb:(D.phase==1)=false:=by rw[beq_eq_false_iff_ne];exact hp
      generalize hpe:D.phase=vp at*
      clear hS hcu hb hfb HTy HFl hp hpe
      go_wp2_with fail
      refine(HS.out.does HTy2.out HS.out.2.1).mono ?_
      rintro e w2 ⟨rfl,h2,_⟩
      have HS2:=hid h2
      clear h2
      go_wp2_with fail
      refine(HS2.out.does HFl2.out HS2.out.2.1).mono ?_
      rintro e w3 ⟨rfl,h3,_⟩
      have HS3:=hid h3
      clear h3
      go_wp2_with fail
      refine(HS3.out.does HPh.out HS3.out.2.1).mono ?_
      rintro e w4 ⟨rfl,h4,_⟩
      have HS4:=hid h4
      clear h4
      go_wp2_with fail
      go_roundw
      case rel=>exact⟨j+1,by omega,by go_num,D,⟨HS4.out.1,HS4.out.2.1.mono (by omega),HS4.out.2.2⟩⟩
      case measure=>simp[intOf];omega
  ·obtain rfl:j=4:=by omega
   clear hS
   go_wp2_with fail
   go_end0
   exact⟨rfl,_,_,HS.out⟩
set_option maxHeartbeats 2000000 in
theorem Kj(h:FSt w p c q k ph D hold wr)(hN:c.N≤1000)(hk:k≤1000)(r i x y z:Int)(hr:In64 r):
  Calls Tryz.prog 10 #[.pointer (some ⟨p.a,0,none⟩),.slice (some ⟨q,0,none⟩) (c.N+1) (c.N+1),.agg #[.int .u8 3,.int .i64 r,.int .i64 i,.int .i64 x,.int .i64 y,.int .i64 z]] wr (yF w p c q k ph):=by
 have HNo:Hid (¬inG p wr.heap.size):=hid (fun hx=>h.1.notG (Nat.le_refl _) (Or.inr hx))
 cases ha:D.aliveB r with
 |false=>
  have HBk:=hid (Blk.new wr #[.int .u8 3,.int .i64 r,.int .i64 i,.int .i64 x,.int .i64 y,.int .i64 z] 34)
  have HL:=hid (h.later (below_new wr (.cells #[.int .u8 3,.int .i64 r,.int .i64 i,.int .i64 x,.int .i64 y,.int .i64 z] 34)))
  have HA:=hid (ld_Hold_no (c:=c) hr ha)
  clear h hr ha
  go_enter Tryz.func10,Tryz.ntmps10
  go_wp2_with fail
  generalize wr.alloc (.cells #[.int .u8 3,.int .i64 r,.int .i64 i,.int .i64 x,.int .i64 y,.int .i64 z] 34)=w0 at*
  generalize wr.heap.size=n0 at*
  have b0:w0.cell? ⟨n0,0,none⟩=some (.int .u8 3):=HBk.out.cell 0 rfl
  have b1:w0.cell? ⟨n0,1,none⟩=some (.int .i64 r):=HBk.out.cell 1 rfl
  go_wp2_with fail
  refine(HL.out.does HA.out HL.out.2.1).mono ?_
  rintro e w2 ⟨rfl,h2,hT⟩
  have HE2:=hid h2.up
  clear h2 hT
  go_wp2_with fail
  go_end0
  exact⟨rfl,_,_,HE2.out.Jd⟩
 |true=>
  obtain⟨t,hf,hd⟩:=aliveB_yes ha
  obtain⟨htl,er⟩:=find_live hf
  have HA:=hid (ld_Hold (c:=c) hf hd (h.refs hk hf))
  have HI:=hid (h.2.1.more (hold':=fun a=>hold a+if(a:Int)+1=r then 1 else 0) hf hd (fun _=>rfl))
  have hlt:t.h<c.N:=by
   obtain⟨zs,m,hG,hR,_⟩:=h.1
   exact hR.hlt htl
  have hbd:=h.2.1.li.bd t.h
  obtain⟨b,hbe⟩:∃b,b=t.h:=⟨_,rfl⟩
  obtain⟨j,hj⟩:∃j,j=b+1:=⟨_,rfl⟩
  obtain rfl:r=(j:Int):=by omega
  rw[←hbe] at hlt hbd
  obtain⟨hv,hve0⟩:∃v:Nat,v=hold b:=⟨_,rfl⟩
  have HVe:=hid hve0
  have hvb:hv≤1000:=by omega
  clear hve0
  have HBk:=hid (Blk.new wr #[.int .u8 3,.int .i64 (j:Int),.int .i64 i,.int .i64 x,.int .i64 y,.int .i64 z] 34)
  have HL:=hid (h.later (below_new wr (.cells #[.int .u8 3,.int .i64 (j:Int),.int .i64 i,.int .i64 x,.int .i64 y,.int .i64 z] 34)))
  have e2:IntKind.i64.wrap ((hv:Int)+1)=(hv:Int)+1:=IntWalk.i64_in _ (by omega)
  have hjl:j<c.N+1:=by omega
  have HJ:=hid hj
  clear h hr ha hf hd htl er hbe hj
  go_enter Tryz.func10,Tryz.ntmps10
  go_wp2_with fail
  generalize wr.alloc (.cells #[.int .u8 3,.int .i64 (j:Int),.int .i64 i,.int .i64 x,.int .i64 y,.int .i64 z] 34)=w0 at*
  generalize wr.heap.size=n0 at*
  have b0:w0.cell? ⟨n0,0,none⟩=some (.int .u8 3):=HBk.out.cell 0 rfl
  have b1:w0.cell? ⟨n0,1,none⟩=some (.int .i64 (j:Int)):=HBk.out.cell 1 rfl
  go_wp2_with fail
  refine(HL.out.1.does HA.out).mono ?_
  rintro e w2 ⟨rfl,h2,hT⟩
  have hj:=HJ.out
  have hq:=HL.out.2.2.2.1
  have hb2:=HL.out.2.2.1.touch hT (fun hx=>hq (Or.inr hx))
  have HB2:=hid (HBk.out.touch hT HNo.out)
  have HE2:=hid (FSt.put (b:=b) (v:=(hv:Int)+1) h2 HI.out hb2 hq HL.out.2.2.2.2 hj (by show(hv:Int)+1=((hold b+(if(b:Int)+1=(j:Int) then 1 else 0):Nat):Int);rw[if_pos (show(b:Int)+1=(j:Int) by omega),←HVe.out];omega) (fun a hne=>by show hold a+(if(a:Int)+1=(j:Int) then 1 else 0)=hold a;rw[if_neg (show ¬(a:Int)+1=(j:Int) by omega)];rfl))
  have b1:=HB2.out.cell 1 rfl
  have cq:w2.cell? ⟨q,j,none⟩=some (.int .i64 (hv:Int)):=by rw[HVe.out];exact FSt.cell hb2 hj hlt
  have fq:=hb2.free j
  have hz:q<w2.heap.size:=hb2.lt
  clear h2 hT hb2 b0 hlt hbd hj
  go_wp2_with fail
  go_end0
  exact⟨rfl,_,_,HE2.out.Jd⟩
set_option maxHeartbeats 2000000 in
theorem Ki(h:FSt w p c q k ph D hold wr)(hN:c.N≤1000)(hk:k≤1000)(r i x y z:Int)(hr:In64 r):
  Calls Tryz.prog 10 #[.pointer (some ⟨p.a,0,none⟩),.slice (some ⟨q,0,none⟩) (c.N+1) (c.N+1),.agg #[.int .u8 2,.int .i64 r,.int .i64 i,.int .i64 x,.int .i64 y,.int .i64 z]] wr (yF w p c q k ph):=by
 have HNo:Hid (¬inG p wr.heap.size):=hid (fun hx=>h.1.notG (Nat.le_refl _) (Or.inr hx))
 have HBk:=hid (Blk.new wr #[.int .u8 2,.int .i64 r,.int .i64 i,.int .i64 x,.int .i64 y,.int .i64 z] 34)
 have HL:=hid (h.later (below_new wr (.cells #[.int .u8 2,.int .i64 r,.int .i64 i,.int .i64 x,.int .i64 y,.int .i64 z] 34)))
 have HE0:=hid HL.out.up
 by_cases h1:0<r
 ·by_cases h2:r<((c.N+1:Nat):Int)
  ·obtain⟨b,hb⟩:=Int.eq_ofNat_of_zero_le (show 0≤r-1 by omega)
   obtain⟨j,hj⟩:∃j,j=b+1:=⟨_,rfl⟩
   obtain rfl:r=(j:Int):=by omega
   have hlt:b<c.N:=by omega
   have hbd:=h.2.1.li.bd b
   have hzq:q<wr.heap.size:=h.2.2.1.lt
   by_cases h0:hold b=0
   ·have cw:wr.cell? ⟨q,j,none⟩=some (.int .i64 0):=by
     have:=FSt.cell h.2.2.1 hj hlt
     rw[h0] at this
     exact this
    have cq:(wr.alloc (.cells #[.int .u8 2,.int .i64 (j:Int),.int .i64 i,.int .i64 x,.int .i64 y,.int .i64 z] 34)).cell? ⟨q,j,none⟩=some (.int .i64 0):=by
     have:=FSt.cell HL.out.2.2.1 hj hlt
     rw[h0] at this
     exact this
    have hjl:j<c.N+1:=by omega
    clear h hr hb h0 hbd hlt hj
    go_enter Tryz.func10,Tryz.ntmps10
    go_wp2_with fail
    go_end0
    exact⟨rfl,_,_,HE0.out.Jd⟩
   ·obtain⟨t,htl,eb,hd,hrf,hf⟩:=h.2.1.li.LW h0
    have hp:=h.1.pendBd h.2.1.li.san
    have hf:D.find (j:Int)=some t:=by rw[show(j:Int)=(b:Int)+1 by omega];exact hf
    have HA:=hid (ld_Let (c:=c) hf hd hrf hp.1 hp.2)
    have HI:=hid (h.2.1.less (r:=(j:Int)) (hold':=fun a=>hold a-if a=b then 1 else 0) (fun a=>by
     by_cases e:a=b
     ·rw[if_pos e,if_pos (by omega),e];omega
     ·rw[if_neg e,if_neg (by omega)];rfl))
    obtain⟨hv,hve0⟩:∃v:Nat,v=hold b:=⟨_,rfl⟩
    have hv1:0<hv:=by omega
    have hvb:hv≤1000:=by omega
    have hvp:(0:Int)<(hv:Int):=by omega
    have e2:IntKind.i64.wrap ((hv:Int)-1)=(hv:Int)-1:=IntWalk.i64_in _ (by omega)
    have cw:wr.cell? ⟨q,j,none⟩=some (.int .i64 (hv:Int)):=by rw[hve0];exact FSt.cell h.2.2.1 hj hlt
    have cq:(wr.alloc (.cells #[.int .u8 2,.int .i64 (j:Int),.int .i64 i,.int .i64 x,.int .i64 y,.int .i64 z] 34)).cell? ⟨q,j,none⟩=some (.int .i64 (hv:Int)):=by rw[hve0];exact FSt.cell HL.out.2.2.1 hj hlt
    have HVe:=hid hve0
    have hjl:j<c.N+1:=by omega
    have HE:Hid (∀w2,RSt w p c (D.less (j:Int)) w2→Touch (inG p) (wr.alloc (.cells #[.int .u8 2,.int .i64 (j:Int),.int .i64 i,.int .i64 x,.int .i64 y,.int .i64 z] 34)) w2→(FSt w p c q (k+1) ph (D.less (j:Int)) (fun a=>hold a-if a=b then 1 else 0) (w2.setCell ⟨q,j,none⟩ (.int .i64 ((hv:Int)-1))))∧w2.cell? ⟨q,j,none⟩=some (.int .i64 (hv:Int))∧w2.frozen? ⟨q,j,none⟩=false∧q<w2.heap.size):=hid (fun w2 k2 hT=>by
     have hq:=HL.out.2.2.2.1
     have hb2:=HL.out.2.2.1.touch hT (fun hx=>hq (Or.inr hx))
     exact⟨FSt.put (b:=b) (v:=(hv:Int)-1) k2 HI.out hb2 hq HL.out.2.2.2.2 hj (by have:=HVe.out;simp;omega) (fun a hne=>by simp[hne]),by rw[HVe.out];exact FSt.cell hb2 hj hlt,hb2.free j,hb2.lt⟩)
    clear h hr hb hf hd htl hrf hp eb hve0 h0 hbd HI HVe hlt hj
    generalize (fun a=>hold a-if a=b then 1 else 0)=hold2 at*
    go_enter Tryz.func10,Tryz.ntmps10
    go_wp2_with fail
    refine(HL.out.1.does HA.out).mono ?_
    rintro e w2 ⟨rfl,h2,hT⟩
    have HB2:=hid (HBk.out.touch hT HNo.out)
    obtain⟨hE2,c2,fq,hz⟩:=HE.out w2 h2 hT
    have HE2:=hid hE2
    clear cw cq hE2
    have b1:=HB2.out.cell 1 rfl
    clear h2 hT
    go_wp2_with fail
    go_end0
    exact⟨rfl,_,_,HE2.out.Jd⟩
  ·clear h hr
   go_enter Tryz.func10,Tryz.ntmps10
   go_wp2_with fail
   go_end0
   exact⟨rfl,_,_,HE0.out.Jd⟩
 ·clear h hr
  go_enter Tryz.func10,Tryz.ntmps10
  go_wp2_with fail
  go_end0
  exact⟨rfl,_,_,HE0.out.Jd⟩
theorem one17_any(h:FSt w p c q k ph D hold wr)(hN:c.N≤1000)(hk:k≤990)(kd r i x y z:Int)(h0:0≤kd)(hr:In64 r)(hx:In64 x):
  Calls Tryz.prog 10 #[.pointer (some ⟨p.a,0,none⟩),.slice (some ⟨q,0,none⟩) (c.N+1) (c.N+1),.agg #[.int .u8 kd,.int .i64 r,.int .i64 i,.int .i64 x,.int .i64 y,.int .i64 z]] wr (yF w p c q k ph):=by
 by_cases h6:6≤kd
 ·exact Km h hk kd r i x y z h6
 ·have:kd=0∨kd=1∨kd=2∨kd=3∨kd=4∨kd=5:=by omega
  rcases this with rfl|rfl|rfl|rfl|rfl|rfl
  ·exact Kg h hN r i x y z
  ·exact Kh h (by omega) r i x y z hr hx
  ·exact Ki h hN (by omega) r i x y z hr
  ·exact Kj h hN (by omega) r i x y z hr
  ·exact Kk h r i x y z
  ·exact Kl h r i x y z
end
end Go.Proofs.YtofhdfjkhfkhiaaGreat.Pk
