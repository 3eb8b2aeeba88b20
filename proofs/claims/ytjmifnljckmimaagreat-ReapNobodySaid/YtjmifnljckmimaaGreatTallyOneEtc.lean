/-
  Texts laid together: TallyOne, FloodInv, FloodFin, ReapW, ReapDo, ReapLaw, ReapNob.
-/
import Derived.Test.YtjmifnljckmimaaGreatRefSeeEtc
import Derived.Test.YtjmifnljckmimaaGreatGravGrownEtc
import Derived.Test.YtjmifnljckmimaaGreatWholeRowFEtc
import Derived.Test.YtjmifnljckmimaaGreatFloodWEtc
import Derived.Test.YtjmifnljckmimaaGreatTallyCntFEtc
import Derived.Test.YtjmifnljckmimaaGreatLinkWEtc
import Derived.Test.YtjmifnljckmimaaGreatObjRdEtc
namespace Go.Proofs.YtjmifnljckmimaaGreat.Pk
open Lib (hid)
open Go.RowKit
set_option linter.unusedVariables false
set_option linter.unusedSimpArgs false
set_option maxRecDepth 100000
structure iU (c:Cf) (hold:Nat→Nat) (k:Nat) (ph:Int) (D:Wd):Prop where
 li:fP hold k D
 tm:TM D
 pi:PInv c k D
 fl:D.field≤100000
 phs:D.phase=ph
def hN(hold:Nat→Nat)(i:Nat):Nat:=if i=0 then 0 else hold (i-1)
def FC(w:World)(p:Pl)(c:Cf)(q k:Nat)(ph:Int)(D:Wd)(hold:Nat→Nat)(wr:World):Prop:=
 RSt w p c D wr∧iU c hold k ph D∧Blk wr q (jS (fun i=>.int .i64 ((hN hold i:Nat):Int)) (c.N+1)) 3∧¬kH p q∧w.heap.size≤q
section
variable {w wr w':World} {p:Pl} {c:Cf} {q k:Nat} {D D':Wd} {hold hold':Nat→Nat} {ph:Int} {t u:Th} {r x y i:Int}
theorem iU.mono{K:Nat}(O:iU c hold k ph D)(h:k≤K):iU c hold K ph D:=⟨O.li.mono h,O.tm,O.pi.mono h,O.fl,O.phs⟩
theorem iU.new{v:Nat}(hv:16≤v):iU c (fun _=>0) 0 0 (Wd.new c.N v):=⟨fP.new c.N hv,.inl ⟨rfl,bA.new _ _⟩,PInv.new c hv,show(0:Int)≤100000 by decide,rfl⟩
theorem iU.put(O:iU c hold k ph D)(hf:D.find r=some t)(hd:t.mr.dead=false){j:Nat}(hi:j<t.pt.length)(hx:x=0∨∃u,D.find x=some u∧u.mr.dead=false):iU c hold (k+1) ph (D.put r j x (nth t.pt j)):=
 ⟨(O.li.put hf hd hi hx).mono (Nat.le_succ k),O.tm.put O.li.san O.li.nam hf hd hi,O.pi.put hf hd j x _,by rw[(kP r j x (nth t.pt j)).2.2.1];exact O.fl,(kP r j x (nth t.pt j)).2.2.2.trans O.phs⟩
theorem iU.more(O:iU c hold k ph D)(hf:D.find r=some u)(hd:u.mr.dead=false)(hh:∀h:Nat,hold' h=hold h+if(h:Int)+1=r then 1 else 0):iU c hold' (k+1) ph (D.more r):=
 ⟨O.li.up hf hd hh,O.tm.up O.li.san r,O.pi.to (O.li.san.more r) (O.pi.bd.more r) (uw r),by rw[(eU r).2.2.1];exact O.fl,(eU r).2.2.2.trans O.phs⟩
theorem iU.less(O:iU c hold k ph D)(hh:∀h:Nat,hold h=hold' h+if(h:Int)+1=r then 1 else 0):iU c hold' (k+1) ph (D.less r):=
 ⟨(O.li.let hh).mono (Nat.le_succ k),O.tm.less O.li.san r,O.pi.to (O.li.san.less r) ((O.pi.bd.less r).mono (Nat.le_succ k)) (zH r),by rw[(iJ r).2.2.1];exact O.fl,(iJ r).2.2.2.trans O.phs⟩
theorem iU.born(O:iU c hold k ph D)(B:BornOk D x y c.N)(hE:D.mkE x y=0)(hh:∀h:Nat,hold' h=hold h+if h=D.mkB then 1 else 0):iU c hold' (k+1) ph (D.born x y):=
 ⟨O.li.born B hE hh,O.tm.born O.li.san B,O.pi.born B,by rw[jh.2.2.1];exact O.fl,jh.2.2.2.trans O.phs⟩
theorem RSt.fields(h:RSt w p c D wr):0≤D.field:=by
 obtain⟨zs,m,hG,hR,_⟩:=h
 exact(hR.GV hG.wz).2.1
theorem iU.step(O:iU c hold k ph D)(hF:0≤D.field):iU c hold (k+1) ph D.step:=
 iU.mono ⟨O.li.step,O.tm.step O.li.san O.li.nam hF,O.pi.step,by rw[jr.2.2.1];exact O.fl,jr.2.2.2.trans O.phs⟩ (Nat.le_succ k)
theorem Lr(h:D.field≤100000)(hs:∀t,t∈D.live→t.pt.length≤100000):D.tally.field≤100000:=by
 unfold Wd.tally
 split
 ·unfold Wd.dP
  cases hf:D.find (D.cursor+1) with
  |none=>exact(show(0:Int)≤100000 by decide)
  |some t=>
   have:=hs t (find_live hf).1
   simp only
   split
   ·exact(show(0:Int)≤100000 by decide)
   ·split
    ·show D.field+1≤100000
     omega
    ·exact(show(0:Int)≤100000 by decide)
 ·exact h
theorem dX.tally(N:dX hold D)(S:San D):dX hold D.tally:=by
 unfold Wd.tally
 split
 ·unfold Wd.dP
  split
  ·exact N.ts rfl
  ·split
   ·exact N.ts rfl
   ·split
    ·exact(N.mark S _ (f:=fun m=>{m with shade:=D.parity,shadow:=D.dB (nth _ D.field.toNat)+1}) (fun _=>rfl) (fun _=>rfl)).ts rfl
    ·exact(N.mark S _ (f:=fun m=>{m with count:=D.parity}) (fun _=>rfl) (fun _=>rfl)).ts rfl
 ·exact N
theorem cz.tally(P:cz x D)(S:San D):cz x D.tally:=by
 unfold Wd.tally
 split
 ·unfold Wd.dP
  split
  ·exact P.ts rfl
  ·split
   ·exact P.ts rfl
   ·split
    ·exact(P.mark S _ (f:=fun m=>{m with shade:=D.parity,shadow:=D.dB (nth _ D.field.toNat)+1}) (fun _=>rfl) (fun _ h=>h)).ts rfl
    ·exact(P.mark S _ (f:=fun m=>{m with count:=D.parity}) (fun _=>rfl) (fun _ h=>h)).ts rfl
 ·exact P
theorem Lt:D.tally.live.map Th.h=D.live.map Th.h:=by
 unfold Wd.tally
 split
 ·unfold Wd.dP
  split
  ·rfl
  ·split
   ·rfl
   ·split
    ·exact bi (D:=D) _ (fun m=>{m with shade:=D.parity,shadow:=D.dB (nth _ D.field.toNat)+1})
    ·exact bi (D:=D) _ (fun m=>{m with count:=D.parity})
 ·rfl
theorem fP.tally(I:fP hold k D):fP hold k D.tally:=⟨I.san.tally,I.nam.tally I.san,I.pos.tally I.san,I.bd,si I Lt⟩
theorem iU.tally(O:iU c hold k ph D)(hF:0≤D.field)(hs:∀t,t∈D.live→t.pt.length≤100000):iU c hold (k+1) ph D.tally:=
 ⟨O.li.tally.mono (Nat.le_succ k),O.tm.tally O.li.san hF,O.pi.tally,Lr O.fl hs,kU.1.trans O.phs⟩
theorem FC.later(h:FC w p c q k ph D hold wr)(hb:Below wr.heap.size wr w'):FC w p c q k ph D hold w':=⟨h.1.later hb,h.2.1,h.2.2.1.later hb,h.2.2.2.1,h.2.2.2.2⟩
theorem FC.refs(h:FC w p c q k ph D hold wr)(hk:k≤1000)(hf:D.find r=some t):t.mr.refs<4294967295:=by
 have:=(h.2.1.pi.bd r t hf).1
 omega
theorem FC.up(h:FC w p c q k ph D hold wr):FC w p c q (k+1) ph D hold wr:=⟨h.1,h.2.1.mono (Nat.le_succ k),h.2.2⟩
theorem FC.does{K:Nat}{f:FuncId}{args:List Value}{B:Nat}{v:Value}(h:FC w p c q k ph D hold wr)(ha:Does c D f args B D' v)(I:iU c hold K ph D'):
  Calls Tryz.prog f (List.toArray (.pointer (some ⟨p.a,0,none⟩)::args)) wr fun e w'=>e=.returned v∧FC w p c q K ph D' hold w'∧Touch (inG p) wr w':=by
 refine(h.1.does ha).mono ?_
 rintro e w' ⟨rfl,h1,hT⟩
 exact⟨rfl,⟨h1,I,h.2.2.1.touch hT (fun hx=>h.2.2.2.1 (Or.inr hx)),h.2.2.2⟩,hT⟩
theorem FC.put(h:RSt w p c D wr)(I:iU c hold' k ph D)(hb:Blk wr q (jS (fun i=>.int .i64 ((hN hold i:Nat):Int)) (c.N+1)) 3)(hq:¬kH p q)(hl:w.heap.size≤q){b j:Nat}(hj:j=b+1){v:Int}(hv:v=((hold' b:Nat):Int))(hh:∀h,h≠b→hold' h=hold h):FC w p c q k ph D hold' (wr.setCell ⟨q,j,none⟩ (.int .i64 v)):=by
 subst hj
 have hT:=(Touch.refl (fun i=>i=q) wr).setCell (p:=⟨q,b+1,none⟩) (fun _=>rfl) (.int .i64 v)
 refine⟨h.touch hT (fun i hi e=>hq (e▸hi)) (fun i e=>by rw[e];exact hl),I,?_,hq,hl⟩
 have:=hb.set (b+1) (.int .i64 v)
 rw[uP] at this
 rw[show jS (fun i=>Value.int .i64 ((hN hold' i:Nat):Int)) (c.N+1)=jS (fun j=>if j=b+1 then Value.int .i64 v else Value.int .i64 ((hN hold j:Nat):Int)) (c.N+1) from pO (fun j _=>by
  by_cases e:j=b+1
  ·rw[if_pos e,e,hv]
   rfl
  ·rw[if_neg e]
   unfold hN
   by_cases e0:j=0
   ·rw[if_pos e0,if_pos e0]
   ·rw[if_neg e0,if_neg e0,hh (j-1) (by omega)])]
 exact this
theorem FC.cell(h:Blk wr q (jS (fun i=>.int .i64 ((hN hold i:Nat):Int)) (c.N+1)) 3){b j:Nat}(hj:j=b+1)(hb:b<c.N):wr.cell? ⟨q,j,none⟩=some (.int .i64 ((hold b:Nat):Int)):=by
 subst hj
 exact h.arr (show b+1<c.N+1 by omega)
end
section
variable {w wr:World} {p:Pl} {c:Cf} {q k:Nat} {D:Wd} {hold:Nat→Nat} {ph:Int}
end
section
variable {D D':Wd} {t u:Th} {r x:Int} {hold:Nat→Nat} {k:Nat} {c:Cf}
theorem jN{P:Wd→Prop}(S:San D)(h0:P D)(hm:∀D r,San D→P D→P (D.settle r))(ht:∀D r,San D→P D→P (D.touch r))(hn:∀D D',P D→D'.ts=D.ts→(∀b,b∈D'.ring→b∈D.ring)→D'.clean=D.clean→D'.grave=D.grave→D'.pending=D.pending→D'.w=D.w→D'.n=D.n→P D'):P D.aM:=by
 unfold Wd.aM
 split
 ·split
  ·split
   ·rename_i b rest hr
    exact hn D _ h0 rfl (fun c hc=>by rw[hr];exact List.mem_cons_of_mem _ hc) rfl rfl rfl rfl rfl
   ·refine hn (D.bN (D.cursor+1) (D.find (D.cursor+1))) D.zI ?_ rfl (fun _ h=>h) rfl rfl rfl rfl rfl
    unfold Wd.bN
    split
    ·exact h0
    ·split
     ·exact h0
     ·split
      ·exact ht _ _ (S.settle _) (hm _ _ S h0)
      ·exact hm _ _ S h0
  ·unfold Wd.jB
   split
   ·exact hn D _ h0 rfl (fun _ h=>h) rfl rfl rfl rfl rfl
   ·split
    ·exact hn _ _ (ht _ _ S h0) rfl (fun _ h=>h) rfl rfl rfl rfl rfl
    ·exact hn D _ h0 rfl (fun _ h=>h) rfl rfl rfl rfl rfl
 ·exact h0
theorem dX.aM(N:dX hold D)(S:San D):dX hold D.aM:=
 jN (P:=dX hold) S N (fun D r S N=>N.mark S r (f:=fun m=>{m with shade:=D.parity,shadow:=D.dB r}) (fun _=>rfl) (fun _=>rfl)) (fun D r S N=>N.touch S r) (fun D D' N h _ _ _ _ _ _=>N.ts h)
theorem cz.aM(N:cz x D)(S:San D):cz x D.aM:=
 jN (P:=cz x) S N (fun D r S N=>N.mark S r (f:=fun m=>{m with shade:=D.parity,shadow:=D.dB r}) (fun _=>rfl) (fun _ h=>h)) (fun D r S N=>N.touch S r) (fun D D' N h _ _ _ _ _ _=>N.ts h)
theorem JU(S:San D):D.aM.live.map Th.h=D.live.map Th.h:=
 jN (P:=fun E=>E.live.map Th.h=D.live.map Th.h) S rfl (fun E r _ h=>(bi (D:=E) r (fun m=>{m with shade:=E.parity,shadow:=E.dB r})).trans h) (fun E r _ h=>(wL r).trans h) (fun E E' h e _ _ _ _ _ _=>by
  have:E'.live=E.live:=by unfold Wd.live;rw[e]
  rw[this]
  exact h)
theorem JS(S:San D):D.aM.ts.map Th.h=D.ts.map Th.h:=
 jN (P:=fun E=>E.ts.map Th.h=D.ts.map Th.h) S rfl (fun E r _ h=>(dw (D:=E) r (fun m=>{m with shade:=E.parity,shadow:=E.dB r})).trans h) (fun E r _ h=>(wK r).trans h) (fun E E' h e _ _ _ _ _ _=>by rw[e];exact h)
theorem fP.aM(I:fP hold k D):fP hold k D.aM:=⟨I.san.aM,I.nam.aM I.san,I.pos.aM I.san,I.bd,si I (JU I.san)⟩
theorem fH.aM(h:fH k D)(S:San D):fH k D.aM:=
 jN (P:=fH k) S h (fun E r _ h=>h.mark r (fun m=>{m with shade:=E.parity,shadow:=E.dB r}) (Nat.le_refl _) (fun t ht=>⟨(h r t ht).1,h.dB r⟩)) (fun E r _ h=>h.touch r) (fun E E' h e _ _ _ _ _ _=>h.ts e)
theorem PInv.aM(I:PInv c k D):PInv c k D.aM:=⟨I.san.aM,I.bd.aM I.san,by rw[JS I.san];exact I.hd⟩
def Md(ph:Int)(D:Wd):Prop:=(ph=0∧D.phase=0)∨(ph=1∧(D.phase=1∨D.phase=2))
theorem Md.of{ph:Int}(h:Md ph D)(e:D'.phase=D.phase):Md ph D':=by
 unfold Md at*
 rw[e]
 exact h
end
def Qg(t:Th):Nat × List Int × Bool × Int:=(t.h,t.pt,t.mr.dead,t.mr.refs)
def Pt(D D':Wd):Prop:=∀q,(D'.find q).map Qg=(D.find q).map Qg
structure BK (m:Int→Prop) (D:Wd):Prop where
 col:∀x t,D.find x=some t→t.mr.color=D.parity→m x
 ring:∀b,b∈D.ring→m ((b:Int)+1)
 scan:D.scan≠0→m D.scan
section
variable {D D' D2:Wd} {t u v:Th} {r x y q:Int} {hold:Nat→Nat} {l fl:List Int} {m:Int→Prop} {N:Nat}
theorem Pt.refl(D:Wd):Pt D D:=fun _=>rfl
theorem Pt.trans(h:Pt D D')(k:Pt D' D2):Pt D D2:=fun q=>(k q).trans (h q)
theorem Pt.symm(h:Pt D D'):Pt D' D:=fun q=>(h q).symm
theorem Pt.ts(h:D'.ts=D.ts):Pt D D':=fun q=>by unfold Wd.find;rw[h]
theorem Pt.mark(D:Wd)(r:Int){f:Mrk→Mrk}(h1:∀m,(f m).dead=m.dead)(h2:∀m,(f m).refs=m.refs):Pt D (D.mark r f):=fun q=>by
 rw[find_mark]
 cases D.find q with
 |none=>rfl
 |some t=>
  simp only[Option.map_some]
  split
  ·unfold Qg
   simp only[h1,h2]
  ·rfl
theorem Pt.touch(D:Wd)(r:Int):Pt D (D.touch r):=by
 rcases gW (D:=D) r with h|h
 ·exact Pt.ts h
 ·exact(Pt.mark D r (f:=fun m=>{m with color:=D.parity}) (fun _=>rfl) (fun _=>rfl)).trans (Pt.ts h)
theorem Pt.tally(D:Wd):Pt D D.tally:=by
 unfold Wd.tally
 split
 ·unfold Wd.dP
  split
  ·exact Pt.ts rfl
  ·split
   ·exact Pt.ts rfl
   ·split
    ·exact(Pt.mark D _ (f:=fun m=>{m with shade:=D.parity,shadow:=D.dB _+1}) (fun _=>rfl) (fun _=>rfl)).trans (Pt.ts rfl)
    ·exact(Pt.mark D _ (f:=fun m=>{m with count:=D.parity}) (fun _=>rfl) (fun _=>rfl)).trans (Pt.ts rfl)
 ·exact Pt.refl D
theorem Pt.aM(S:San D):Pt D D.aM:=
 jN (P:=Pt D) S (Pt.refl D) (fun E r _ h=>h.trans (Pt.mark E r (f:=fun m=>{m with shade:=E.parity,shadow:=E.dB r}) (fun _=>rfl) (fun _=>rfl))) (fun E r _ h=>h.trans (Pt.touch E r)) (fun E E' h e _ _ _ _ _ _=>h.trans (Pt.ts e))
theorem Pt.some(h:Pt D D')(hf:D.find q=some t):∃t',D'.find q=some t'∧t'.h=t.h∧t'.pt=t.pt∧t'.mr.dead=t.mr.dead∧t'.mr.refs=t.mr.refs:=by
 have h1:=h q
 rw[hf] at h1
 cases hq:D'.find q with
 |none=>rw[hq] at h1;cases h1
 |some t'=>
  rw[hq] at h1
  have h2:Qg t'=Qg t:=Option.some.inj h1
  unfold Qg at h2
  injection h2 with e1 h2
  injection h2 with e2 h2
  injection h2 with e3 e4
  exact⟨t',rfl,e1,e2,e3,e4⟩
theorem Pt.live(h:Pt D D')(S:San D)(ht:t∈D.live):∃t',t'∈D'.live∧t'.h=t.h:=by
 obtain⟨t',h1,h2,_⟩:=h.some (S.findIt ht)
 exact⟨t',(find_live h1).1,h2⟩
theorem LZ.pt(C:LZ D m)(h:Pt D D'):LZ D' m:=fun x t' hx hf i hi hn=>by
 obtain⟨t,ht,_,e2,_⟩:=h.symm.some hf
 rw[←e2] at hi hn ⊢
 exact C x t hx ht i hi hn
theorem Ql.pt(M:Ql D fl m)(h:Pt D D'):Ql D' fl m:=⟨M.1,M.2.1.pt h,fun R C hf x hx=>M.2.2 R (C.pt h.symm) hf x hx⟩
theorem Out.pt(O:Out hold D)(S:San D)(h:Pt D D'):Out hold D':=fun b hb=>O b (fun t ht e=>by
 obtain⟨t',h1,h2⟩:=h.live S ht
 exact hb t' h1 (h2.trans e))
theorem Mm(hf:D.find x=some v)(ha:v.at r=true):x=r:=by
 have:=(find_live hf).2
 unfold Th.at at ha
 simp at ha
 omega
theorem BK.mark(B:BK m D)(r:Int){f:Mrk→Mrk}(hc:∀m,(f m).color=m.color):BK m (D.mark r f):=⟨fun x u hu h=>by
 rw[find_mark] at hu
 cases hx:D.find x with
 |none=>rw[hx] at hu;cases hu
 |some v=>
  rw[hx] at hu
  simp only[Option.map_some] at hu
  refine B.col x v hx ?_
  split at hu
  ·cases hu
   rw[←hc]
   exact h
  ·cases hu
   exact h,B.ring,B.scan⟩
theorem BK.touch(B:BK m D)(hr:∀t,D.find r=some t→m r):BK m (D.touch r):=by
 cases ht:D.toucht r with
 |false=>rw[show D.touch r=D by unfold Wd.touch;rw[ht];rfl];exact B
 |true=>
  cases hf:D.find r with
  |none=>unfold Wd.toucht at ht;rw[hf] at ht;cases ht
  |some t=>
   have hm:=hr t hf
   have er:=(find_live hf).2
   have e:D.touch r={D.paint r with ring:=if hasB (ints D.ring) (r-1) then D.ring else D.ring++[(r-1).toNat]}:=by unfold Wd.touch;rw[ht];rfl
   rw[e]
   refine⟨fun x u hu hc=> ?_,fun b hb=> ?_,B.scan⟩
   ·have hu:(D.mark r (fun m=>{m with color:=D.parity})).find x=some u:=hu
    by_cases hxr:x=r
    ·rw[hxr]
     exact hm
    ·rw[find_mark] at hu
     cases hx:D.find x with
     |none=>rw[hx] at hu;cases hu
     |some v=>
      rw[hx] at hu
      simp only[Option.map_some] at hu
      rw[if_neg (fun ha=>hxr (Mm hx ha))] at hu
      cases hu
      exact B.col x _ hx hc
   ·have hb:b∈(if hasB (ints D.ring) (r-1) then D.ring else D.ring++[(r-1).toNat]):=hb
    split at hb
    ·exact B.ring b hb
    ·rw[List.mem_append,List.mem_singleton] at hb
     rcases hb with hb|rfl
     ·exact B.ring b hb
     ·rw[show(((r-1).toNat:Nat):Int)+1=r by omega]
      exact hm
theorem BK.aM(F:FL hold D)(S:San D)(Nm:dX hold D)(C:LZ D m)(H:∀b:Nat,0<hold b→m ((b:Int)+1))(B:BK m D):BK m D.aM:=by
 unfold Wd.aM
 split
 ·split
  ·split
   ·rename_i b rest hr
    exact⟨B.col,fun c hc=>B.ring c (by rw[hr];exact List.mem_cons_of_mem _ hc),fun _=>B.ring b (by rw[hr];exact List.mem_cons_self ..)⟩
   ·have key:BK m (D.bN (D.cursor+1) (D.find (D.cursor+1))):=by
     cases hf:D.find (D.cursor+1) with
     |none=>exact B
     |some t=>
      have hs:BK m (D.settle (D.cursor+1)):=B.mark (D.cursor+1) (f:=fun m=>{m with shade:=D.parity,shadow:=D.dB (D.cursor+1)}) (fun _=>rfl)
      unfold Wd.bN
      simp only
      split
      ·exact B
      ·rename_i hd
       split
       ·rename_i hlt
        refine hs.touch (fun _ _=> ?_)
        obtain⟨htl,er⟩:=find_live hf
        by_cases hc:t.mr.color=D.parity
        ·exact B.col _ t hf hc
        ·have hsum:aj (D.ph ((t.h:Int)+1)) D.ts=aj (fG ((t.h:Int)+1)) D.ts:=df (fun v hv=>by
          show jl D.parity D.cursor D.field _ v=_
          unfold jl pq fG
          rw[if_pos (F.al v hv),List.take_length])
         have hcnt:=Nm.cnt t htl
         have hsv:=F.ho.sh t htl (fun h=>h) (by cases h:t.mr.dead;rfl;exact absurd h hd) hc
         have hsh:=wu S htl
         rw[er] at hsh
         rw[hsh,hsv,hsum,hcnt] at hlt
         rw[←er]
         exact H t.h (by omega)
       ·exact hs
    exact⟨key.col,key.ring,key.scan⟩
  ·rename_i hs
   unfold Wd.jB
   split
   ·exact⟨B.col,B.ring,fun h=>absurd rfl h⟩
   ·rename_i t hf
    split
    ·rename_i hff
     have h0:=F.sf
     have key:=B.touch (r:=nth t.pt D.scanF.toNat) (fun u hu=>C D.scan t (B.scan hs) hf D.scanF.toNat (by omega) (by have:=(find_live hu).2;omega))
     exact⟨key.col,key.ring,key.scan⟩
    ·exact⟨B.col,B.ring,fun h=>absurd rfl h⟩
 ·exact B
structure TQ (N:Nat) (hold:Nat→Nat) (D:Wd):Prop where
 ci:∃s h f,CI N s h f D
 fm:FM hold D
 nam:dX hold D
 out:Out hold D
 col:∀t,t∈D.ts→t.mr.color=0
 par:D.parity=1
 ring:D.ring=[]
 scan:D.scan=0
theorem Fa:D.tally.ring=D.ring:=by
 unfold Wd.tally
 split
 ·unfold Wd.dP
  split
  ·rfl
  ·split
   ·rfl
   ·split<;>rfl
 ·rfl
theorem IQ(h:∀t,t∈D.ts→t.mr.color=0):∀t,t∈D.tally.ts→t.mr.color=0:=by
 unfold Wd.tally
 split
 ·unfold Wd.dP
  split
  ·exact h
  ·split
   ·exact h
   ·split
    ·exact iO (P:=fun t=>t.mr.color=0) (g:=fun t=>{t with mr:={t.mr with shade:=D.parity,shadow:=D.dB _+1}}) (fun t ht=>ht) _ h
    ·exact iO (P:=fun t=>t.mr.color=0) (g:=fun t=>{t with mr:={t.mr with count:=D.parity}}) (fun t ht=>ht) _ h
 ·exact h
theorem TQ.tally(T:TQ N hold D)(hb:D.bv=true):TQ N hold D.tally:=by
 obtain⟨s,h,f,I⟩:=T.ci
 have hk:h<N:=by
  have:=I.tb
  rw[hb] at this
  exact of_decide_eq_true this.symm
 obtain⟨h',f',I'⟩:=I.tally hk
 exact⟨⟨_,_,_,I'⟩,T.fm.tally I.san (by rw[I.fi];omega),T.nam.tally I.san,T.out.pt I.san (Pt.tally D),IQ T.col,kU.2.trans T.par,Fa.trans T.ring,wF.trans T.scan⟩
theorem TQ.runN(T:TQ N hold D):∀n,(∀j,j<n→(aF j D).bv=true)→TQ N hold (aF n D)∧Pt D (aF n D)
 |0,_=>⟨T,Pt.refl D⟩
 |n+1,h=>by
  obtain⟨h1,h2⟩:=T.runN n (fun j hj=>h j (by omega))
  exact⟨h1.tally (h n (by omega)),h2.trans (Pt.tally (aF n D))⟩
structure FQ (N:Nat) (hold:Nat→Nat) (m:Int→Prop) (D:Wd):Prop where
 san:San D
 fm:FM hold D
 nam:dX hold D
 out:Out hold D
 ph:D.phase=2
 n:D.n=N
 cu:0≤D.cursor
 hlt:∀t,t∈D.live→t.h<N
 clo:LZ D m
 bk:BK m D
theorem FM.Rw(T:FM hold D)(h:D.phase=2):FL hold D:=by
 rcases T with⟨h1,_⟩|⟨h1,_⟩|⟨_,F⟩
 ·omega
 ·omega
 ·exact F
theorem yt:D.aM.n=D.n∧(D.aM.cursor=D.cursor∨D.aM.cursor=D.cursor+1):=by
 unfold Wd.aM
 split
 ·split
  ·split
   ·exact⟨rfl,.inl rfl⟩
   ·exact⟨(vJ _ _).1,.inr rfl⟩
  ·unfold Wd.jB
   split
   ·exact⟨rfl,.inl rfl⟩
   ·split
    ·exact⟨(ou _).1,.inl (ou _).2.2⟩
    ·exact⟨rfl,.inl rfl⟩
 ·exact⟨rfl,.inl rfl⟩
theorem FQ.aM(Q:FQ N hold m D)(H:∀b:Nat,0<hold b→m ((b:Int)+1)):FQ N hold m D.aM:=by
 have P:=Pt.aM Q.san
 have hc:=(yt (D:=D)).2
 have:=Q.cu
 refine⟨Q.san.aM,Q.fm.aM Q.san Q.nam Q.cu,Q.nam.aM Q.san,Q.out.pt Q.san P,tu.1.trans Q.ph,yt.1.trans Q.n,by omega,fun t ht=> ?_,Q.clo.pt P,BK.aM (Q.fm.Rw Q.ph) Q.san Q.nam Q.clo H Q.bk⟩
 obtain⟨t',h1,h2⟩:=P.symm.live Q.san.aM ht
 rw[←h2]
 exact Q.hlt t' h1
theorem FQ.runN(Q:FQ N hold m D)(H:∀b:Nat,0<hold b→m ((b:Int)+1)):∀n,FQ N hold m (bG n D)∧Pt D (bG n D)
 |0=>⟨Q,Pt.refl D⟩
 |n+1=>by
  obtain⟨h1,h2⟩:=Q.runN H n
  exact⟨h1.aM H,h2.trans (Pt.aM h1.san)⟩
theorem Da{φ:Th→Nat}:∀l:List Th,aj (fun t=>φ t+2) l=aj φ l+2*(aJ l).length
 |[]=>rfl
 |u::l=>by
  rw[aR,aR,ax,Da l]
  cases u.ended<;>simp<;>omega
theorem Kh{l:List Th}(hn:(l.map Th.h).Nodup)(h:∀t,t∈l→t.h<N):l.length≤N:=by
 have:=Cq N (l.map (fun t=>(t.h:Int)+1)) (by
  unfold List.Nodup at hn ⊢
  rw[List.pairwise_map] at hn ⊢
  exact hn.imp (fun h e=>h (by omega))) (fun x hx=>by
  obtain⟨t,ht,rfl⟩:=List.mem_map.1 hx
  have:=h t ht
  omega)
 simpa using this
theorem TQ.Qw(T:TQ N hold D):yO (D.begin 2)≤18*N:=by
 obtain⟨s,h,f,I⟩:=T.ci
 have h1:aj (whiteT (D.begin 2).parity) D.ts≤aj (fun t=>t.pt.length+2) D.ts:=qX (fun t ht=>by unfold whiteT;split<;>omega)
 rw[Da] at h1
 have h2:(aJ D.ts).length≤N:=Kh (l:=D.live) I.san.nd I.hlt
 have h3:=I.bd
 have h4:yO (D.begin 2)=((D.n:Int)-0).toNat+(aj (whiteT (D.begin 2).parity) D.ts+gV (D.begin 2) D.ring)+0:=rfl
 have h5:gV (D.begin 2) []=0:=rfl
 rw[h4,T.ring,h5,I.n]
 omega
theorem TQ.fin(T:TQ N hold D){m n:Nat}(hm:∀j,j<m→(aF j D).bv=true)(hmb:(aF m D).bv=false)(hnb:(bG n ((aF m D).begin 2)).bu=false)(hpot:n+yO (bG n ((aF m D).begin 2))≤yO ((aF m D).begin 2)){mk:Int→Prop}(M:Ql D fl mk)(hf1:∀x,x∈fl→∃b:Nat,x=(b:Int)+1∧0<hold b)(hf2:∀b:Nat,0<hold b→(b:Int)+1∈fl):
  n≤18*N∧(bG n ((aF m D).begin 2)).ring=[]∧Pt D (bG n ((aF m D).begin 2))∧∀x t,(bG n ((aF m D).begin 2)).find x=some t→t.mr.dead=false→(t.mr.color=(bG n ((aF m D).begin 2)).parity↔mk x):=by
 obtain⟨T2,P2⟩:=T.runN m hm
 have hp18:=T2.Qw
 generalize hD2:aF m D=D2 at*
 obtain⟨s,h,f,I⟩:=T2.ci
 have H:∀b:Nat,0<hold b→mk ((b:Int)+1):=fun b hb=>M.1 _ (hf2 b hb)
 have Q0:FQ N hold mk (D2.begin 2):=⟨I.san.dI rfl rfl rfl rfl (fun b hb=>.inl hb),T2.fm.Oy I.ph I.n hmb I.hlt,T2.nam.ts rfl,T2.out,rfl,I.n,Int.le_refl _,I.hlt,M.2.1.pt (P2.trans (Pt.ts rfl)),⟨fun x t hf hc=>by
  have h1:=T2.col t (ji hf)
  have h2:t.mr.color=D2.parity:=hc
  have h3:=T2.par
  omega,fun b hb=>by
  have hb:b∈D2.ring:=hb
  rw[T2.ring] at hb
  exact absurd hb (List.not_mem_nil),fun h=>absurd rfl h⟩⟩
 obtain⟨Q,P3⟩:=Q0.runN H n
 have P:Pt D (bG n (D2.begin 2)):=(P2.trans (Pt.ts (D':=D2.begin 2) rfl)).trans P3
 generalize bG n (D2.begin 2)=De at*
 have hend:=hnb
 unfold Wd.bu at hend
 rw[decide_eq_true Q.ph] at hend
 simp at hend
 refine⟨by omega,hend.1.2,P,fun x t hf hd=>⟨fun hc=>Q.bk.col x t hf hc,fun hx=> ?_⟩⟩
 obtain⟨t2,h1,h2,h3⟩:=Ow Q.san Q.nam Q.fm Q.out Q.ph Q.n hnb Q.hlt mk (M.pt P) hf1 x hx
 rw[hf] at h1
 cases h1
 exact h3
end
theorem PT{D:Wd}(h:D.phase=0)(r:Int):D.touch r=D:=by
 have:D.toucht r=false:=by
  unfold Wd.toucht
  rw[h]
  split<;>simp
 unfold Wd.touch
 rw[this]
 rfl
theorem Qt{D:Wd}(h:D.phase=0)(r:Int):D.more r=D.up r:=by
 unfold Wd.more
 exact PT (D:=D.up r) h r
def Me(D:Wd):Prop:=bA D∧(∀t,t∈D.ts→t.mr.color=0∧t.mr.shadow=0)∧D.phase=0∧D.ring=[]
structure FB (N:Nat) (L:List Int) (hold:Nat→Nat) (k:Nat) (D:Wd):Prop where
 fin:uJ L D
 nam:dX hold D
 out:Out hold D
 col:∀t,t∈D.ts→t.mr.color=0
 ph:D.phase=0
 ring:D.ring=[]
 pi:PInv (gY N) k D
section
variable {D D':Wd} {t u:Th} {r x y:Int} {hold:Nat→Nat} {L:List Int} {N k:Nat}
theorem Me.new(n w:Nat):Me (Wd.new n w):=⟨bA.new _ _,fun t ht=>by simp[Wd.new] at ht,rfl,rfl⟩
theorem Me.tie(h:Me D)(r:Int)(i:Nat)(x:Int):Me ((D.setP r i x).up x):=
 ⟨h.1.tie r i x,iO (P:=fun t=>t.mr.color=0∧t.mr.shadow=0) (g:=fun t=>{t with mr:={t.mr with refs:=t.mr.refs+1}}) (fun t ht=>ht) x (iO (P:=fun t=>t.mr.color=0∧t.mr.shadow=0) (g:=fun t=>{t with pt:=t.pt.set i x}) (fun t ht=>ht) r h.2.1),h.2.2⟩
theorem Me.grow(h:Me D)(x y:Int):Me (D.grow x y):=by
 refine⟨h.1.grow x y,?_,?_⟩
 ·unfold Wd.grow
  split
  ·rename_i hE
   refine iO (P:=fun t=>t.mr.color=0∧t.mr.shadow=0) (g:=fun t=>{t with mr:={t.mr with color:=(D.mkD x y).parity,count:=(D.mkD x y).parity,shade:=(D.mkD x y).parity,shadow:=0}}) (fun t _=>⟨(h.1.mkD x y).1,rfl⟩) (D.mkR x y) ?_
   unfold Wd.mkD
   rw[if_pos hE]
   intro t ht
   rcases List.mem_append.1 (show t∈D.ts++[_] from ht) with ht|ht
   ·exact h.2.1 t ht
   ·obtain rfl:=List.mem_singleton.1 ht
    exact⟨rfl,rfl⟩
  ·exact h.2.1
 ·unfold Wd.grow
  split
  ·rename_i hE
   have e:(D.mkD x y).phase=D.phase∧(D.mkD x y).ring=D.ring:=by
    unfold Wd.mkD
    rw[if_pos hE]
    exact⟨rfl,rfl⟩
   exact⟨e.1.trans h.2.2.1,e.2.trans h.2.2.2⟩
  ·exact h.2.2
theorem FB.of{k0:Nat}(G:nG N D k0)(h:Me D)(hk:k0≤k)(hl:D.dD.length≤k):FB N D.dD (fun _=>0) k D:=
 ⟨G.Re h.1,G.nam,fun _ _=>rfl,fun t ht=>(h.2.1 t ht).1,h.2.2.1,h.2.2.2,G.san,fun q t hf=>by
  obtain⟨htl,e⟩:=find_live hf
  have h1:=G.nam.cnt t htl
  have h2:=G.bd ((t.h:Int)+1) (by omega)
  have h3:=(h.2.1 t (dV.1 htl).1).2
  rw[h1,h3]
  omega,by unfold Wd.dD at hl;simpa using hl,fun b hb=>by
  obtain⟨t,ht,rfl⟩:=List.mem_map.1 hb
  exact G.lt t ht⟩
theorem FB.held(F:FB N L hold k D)(hf:D.find r=some t)(hd:t.mr.dead=false):∃hold',FB N L hold' (k+1) (D.more r):=by
 obtain⟨htl,er⟩:=find_live hf
 have em:(D.more r).ts.map Th.h=D.ts.map Th.h:=uw r
 have hb:=F.pi.bd.more r
 rw[Qt F.ph] at em hb ⊢
 have S:=F.fin.san.up r
 refine⟨fun h=>hold h+if(h:Int)+1=r then 1 else 0,⟨S,by rw[em];exact F.fin.nd,(kQ em).trans F.fin.refs,F.fin.dy.mark r (f:=fun m=>{m with refs:=m.refs+1}) (fun m hm=>hm),fun s hs=> ?_⟩,F.nam.Rq F.fin.san hf hd (fun h=>rfl),fun b hn=> ?_,iO (P:=fun t=>t.mr.color=0) (g:=fun t=>{t with mr:={t.mr with refs:=t.mr.refs+1}}) (fun t ht=>ht) r F.col,F.ph,F.ring,F.pi.to S hb em⟩
 ·rcases wS (g:=fun t=>{t with mr:={t.mr with refs:=t.mr.refs+1}}) hs with hs|⟨u,hu,rfl⟩
  ·exact F.fin.fl s hs
  ·exact F.fin.fl u (ji hu)
 ·have h1:∀t,t∈D.live→t.h≠b:=fun t ht e=>by
   obtain⟨s,k1,k2⟩:=aB (Ot (D:=D) r) ht
   exact hn s k1 (k2.trans e)
  show hold b+(if(b:Int)+1=r then 1 else 0)=0
  rw[F.out b h1,if_neg (fun e=>h1 t htl (by omega))]
theorem FB.up(F:FB N L hold k D):FB N L hold (k+1) D:=⟨F.fin,F.nam,F.out,F.col,F.ph,F.ring,F.pi.up⟩
theorem FB.inter(F:FB N L hold k D)(r:Int):FB N L hold k (D.inter r):=by
 refine⟨F.fin.inter r,F.nam.inter F.fin.san r,fun b hb=>F.out b (fun t ht e=> ?_),?_,?_,?_,F.fin.san.inter r,F.pi.bd.inter r,by rw[lC];exact F.pi.hd⟩
 ·obtain⟨s,k1,k2⟩:=aB (vD (D:=D) r) ht
  exact hb s k1 (k2.trans e)
 ·exact(jv.inter (D:=D) ⟨F.fin.dy,F.col⟩ r).2
 ·unfold Wd.inter Wd.bury
  split
  ·split
   ·exact F.ph
   ·split
    ·exact F.ph
    ·exact F.ph
  ·exact F.ph
 ·unfold Wd.inter Wd.bury
  split
  ·split
   ·exact F.ring
   ·split
    ·exact F.ring
    ·show(D.ring.filter _)=[]
     rw[F.ring]
     rfl
  ·exact F.ring
end
def Wd.empt(D:Wd)(r:Int)(i:Nat)(x:Int):Wd:=if(D.setP r i 0).cnt x=0 then D.setP r i 0 else((D.setP r i 0).down x).inter x
def Wd.reapB(D:Wd):Bool:=decide (D.phase=3)&&decide (D.cursor<(D.n:Int))
def Wd.reapAt(D:Wd):Option Th→Wd
 |none=>D.move (D.cursor+1) 0
 |some t=>if t.mr.dead=true∨t.mr.color=D.parity then D.move (D.cursor+1) 0
  else if D.field<(t.pt.length:Int) then(D.empt (D.cursor+1) D.field.toNat (nth t.pt D.field.toNat)).move D.cursor (D.field+1)
  else(D.paint (D.cursor+1)).move (D.cursor+1) 0
def Wd.reap(D:Wd):Wd:=if D.reapB then D.reapAt (D.find (D.cursor+1)) else D
section
variable {D D':Wd} {t u:Th} {r x y:Int} {hold:Nat→Nat} {k i:Nat} {c:Cf}
theorem reap_idle(h:D.reapB=false):D.reap=D:=by unfold Wd.reap;rw[h];rfl
theorem reap_no(h:D.phase≠3):D.reapB=false:=by unfold Wd.reapB;rw[decide_eq_false h];rfl
theorem Ef(h:D.phase=3)(r:Int)(i:Nat)(x:Int):D.empt r i x=D.drain r i x:=by
 have hl:(D.setP r i 0).ah x=D.setP r i 0:=by
  unfold Wd.ah
  have:(D.setP r i 0).lighter x=false:=by
   unfold Wd.lighter
   have e:(D.setP r i 0).phase=3:=h
   rw[e]
   rfl
  rw[this]
  rfl
 unfold Wd.empt Wd.drain
 rw[hl,ite_self]
 rfl
theorem lJ{P:Wd→Prop}(hF:0≤D.field)(h0:P D)(hn:∀D (x y:Int),P D→P (D.move x y))(hp:∀r,P (D.paint r))(he:∀r t i,D.find r=some t→t.mr.dead=false→i<t.pt.length→P (D.drain r i (nth t.pt i))):P D.reap:=by
 unfold Wd.reap
 cases hb:D.reapB with
 |false=>exact h0
 |true=>
  have h3:D.phase=3:=by
   unfold Wd.reapB at hb
   simp at hb
   exact hb.1
  rw[if_pos rfl]
  unfold Wd.reapAt
  split
  ·exact hn _ _ _ h0
  ·rename_i t hf
   split
   ·exact hn _ _ _ h0
   ·rename_i hd
    split
    ·rename_i hff
     rw[Ef h3]
     exact hn _ _ _ (he _ t _ hf (by cases h:t.mr.dead;rfl;exact absurd (.inl h) hd) (by omega))
    ·exact hn _ _ _ (hp _)
theorem dX.paint(N:dX hold D)(S:San D)(r:Int):dX hold (D.paint r):=N.mark S r (f:=fun m=>{m with color:=D.parity}) (fun _=>rfl) (fun _=>rfl)
theorem San.reap(S:San D)(hF:0≤D.field):San D.reap:=lJ hF S (fun D x y S=>S.move x y) (fun r=>S.paint r) (fun r t i hf _ _=>S.drain hf i _)
theorem dX.reap(N:dX hold D)(S:San D)(hF:0≤D.field):dX hold D.reap:=lJ hF N (fun D x y N=>N.ts rfl) (fun r=>N.paint S r) (fun r t i hf _ hi=>N.drain S hf hi)
theorem cz.reap(P:cz 0 D)(N:dX hold D)(S:San D)(hF:0≤D.field):cz 0 D.reap:=lJ hF P (fun D x y P=>P.ts rfl) (fun r=>P.mark S r (f:=fun m=>{m with color:=D.parity}) (fun _=>rfl) (fun _ h=>h)) (fun r t i hf _ hi=>P.drain N S hf hi)
theorem fH.reap(h:fH k D)(hF:0≤D.field):fH k D.reap:=lJ hF h (fun D x y h=>h.move x y) (fun r=>h.keep r (fun m=>{m with color:=D.parity}) (fun _=>Int.le_refl _) (fun _=>Int.le_refl _)) (fun r t i _ _ _=>h.drain r i _)
theorem Np(hF:0≤D.field):D.reap.ts.map Th.h=D.ts.map Th.h:=lJ (P:=fun E=>E.ts.map Th.h=D.ts.map Th.h) hF rfl (fun D x y h=>h) (fun r=>dw r _) (fun r t i _ _ _=>Br r i _)
theorem Nq(hF:0≤D.field):D.reap.live.map Th.h=D.live.map Th.h:=lJ (P:=fun E=>E.live.map Th.h=D.live.map Th.h) hF rfl (fun D x y h=>h) (fun r=>bi r _) (fun r t i hf _ _=>Bt hf i _)
theorem PInv.reap(I:PInv c k D)(hF:0≤D.field):PInv c k D.reap:=⟨I.san.reap hF,I.bd.reap hF,by rw[Np hF];exact I.hd⟩
theorem fP.reap(I:fP hold k D)(hF:0≤D.field):fP hold k D.reap:=⟨I.san.reap hF,I.nam.reap I.san hF,I.pos.reap I.nam I.san hF,I.bd,si I (Nq hF)⟩
end
section
variable {c:Cf} {zs:List Int} {D:Wd} {t:Th} {r:Int}
theorem OV(hr:In64 r):Does c D 49 [.int .i64 r] 1 D (.bool (D.find r).isSome):=fun zs hz R=>by
 have e:=OT R.heap hz.may hr
 rw[obAt_find R r,Option.isSome_map] at e
 rw[←e]
 exact⟨zs,⟨1*dR (az c (prev r) 0),by have:=oF (az c (prev r) 0);omega,fun p m w hG=>vR hG r⟩,R⟩
theorem yQ(R:au c zs D)(hf:D.find r=some t):Run c 110 [.int .i64 r] zs 3 zs (.tuple #[.int .i64 (t.pt.length:Int),.int .i64 (t.dt.length:Int),.int .i64 0]):=fun p m w hG=>by
 obtain⟨htl,rfl⟩:=find_live hf
 exact nW (s:=⟨zs,m⟩) (o:=t.ob) hG R.heap (R.obMem htl)
theorem JW(hz:Wz c zs)(R:au c zs D)(hr:In64 r)(h0:D.cnt r=0):∃d,d≤8∧Run c 111 [.int .i64 r] zs d zs (.tuple #[.int .i64 0,.bool false]):=by
 cases hf:D.find r with
 |none=>exact countFns.down_no c zs D.clean D.obs r hz R.heap hr (by rw[obAt_find R r,hf];rfl)
 |some t=>
  obtain⟨htl,rfl⟩:=find_live hf
  have e:t.mr.refs=0:=by unfold Wd.cnt at h0;rw[hf] at h0;exact h0
  exact countFns.down_zero c zs D.clean D.obs t.ob hz R.heap (R.obMem htl) (by have e3:nth zs (adr c t.ob.h 3)=t.mr.refs:=(R.own t htl).w3;rw[e3];exact e)
theorem BO(hf:D.find r=some t){f:Int}(hn:¬f<(t.pt.length:Int)):Does c D 52 [.int .i64 r,.int .i64 f] 3 D (.bool false):=fun zs hz R=>
 ⟨zs,⟨3,Nat.le_refl _,CL hn (yQ R hf)⟩,R⟩
theorem Kk(S:San D)(hf:D.find r=some t)(hd:t.mr.dead=false){i:Nat}(hi:i<t.pt.length):Does c D 52 [.int .i64 r,.int .i64 (i:Int)] 72 (D.empt r i (nth t.pt i)) (.bool true):=fun zs hz R=>by
 obtain⟨htl,er⟩:=find_live hf
 have hk:=S.ok t htl
 have hpb:=S.vT R hz.may
 have hr:In64 r:=by rw[←er];exact R.heap.xn hz.may (R.obMem htl)
 have C0:=yQ R hf
 obtain⟨a,ha⟩:=(hk.alive hd).field hz.may R.w.symm hk.tC hi
 obtain⟨⟨d1,hd1,C1⟩,hx0,hx1⟩:=qN hz R hr hf hi ha
 obtain⟨⟨d2,hd2,C2⟩,R2,hz2⟩:=mO hz R hf hi ha (x:=0) (Int.le_refl 0) (by omega)
 have hn:(i:Int)<(t.pt.length:Int):=by omega
 generalize nth t.pt i=x at C1 hx0 hx1
 have hxr:In64 x:=by unfold In64;omega
 unfold Wd.empt
 by_cases hc:(D.setP r i 0).cnt x=0
 ·rw[if_pos hc]
  obtain⟨d3,hd3,C3⟩:=JW hz2 R2 hxr hc
  exact⟨_,⟨3+d1+d2+d3,by omega,xC hn C0 C1 C2 C3⟩,R2⟩
 ·rw[if_neg hc]
  cases hu:(D.setP r i 0).find x with
  |none=>exact absurd (by unfold Wd.cnt;rw[hu]) hc
  |some u=>
   have hcu:(D.setP r i 0).cnt x=u.mr.refs:=by unfold Wd.cnt;rw[hu]
   obtain⟨zs3,C3,R3⟩:=zt hz2 R2 hu (by rw[←hcu];exact hc)
   have hz3:Wz c zs3:=gB.wz hz2 ⟨3,Nat.le_refl _,C3⟩
   have hcd:((D.setP r i 0).down x).cnt x=u.mr.refs-1:=by unfold Wd.cnt Wd.down;rw[mark_find _ hu]
   by_cases hk1:u.mr.refs-1=0
   ·rw[hk1] at C3
    obtain⟨zs4,⟨d4,hd4,C4⟩,R4,hz4⟩:=(BH (c:=c) (D:=(D.setP r i 0).down x) hxr hpb.1 (by show D.pending≤_;omega)).at hz3 R3
    exact⟨zs4,⟨3+d1+d2+3+d4,by omega,xA hn C0 C1 C2 C3 C4⟩,R4⟩
   ·have e:((D.setP r i 0).down x).inter x=(D.setP r i 0).down x:=by unfold Wd.inter;rw[if_neg (by rw[hcd];exact hk1)]
    rw[e]
    exact⟨zs3,⟨3+d1+d2+3,by omega,xB hn hk1 C0 C1 C2 C3⟩,R3⟩
theorem uu(S:San D):Does c D 12 [] 96 D.reap (.bool D.reapB):=fun zs hz R=>by
 have hm:=hz.may
 have hmn:=hm.n
 have hN:=R.n
 obtain⟨⟨k0,k1⟩,f0,f1⟩:=R.GV hz
 obtain⟨zs1,⟨d1,hd1,C1⟩,R1,hz1⟩:=(tintFns.at_ c D).at hz R
 obtain⟨zs2,⟨d2,hd2,C2⟩,R2,hz2⟩:=(tintFns.phase c D).at hz1 R1
 by_cases hp:D.phase=3
 ·rw[hp] at C2
  by_cases hk:D.cursor<(D.n:Int)
  ·have e:D.reapB=true:=by unfold Wd.reapB;simp[hp,hk]
   have hk':D.cursor<(c.N:Int):=by rw[←hN];exact hk
   have hr:In64 (D.cursor+1):=by constructor<;>omega
   unfold Wd.reap
   rw[e,if_pos rfl]
   obtain⟨zs3,⟨d3,hd3,C3⟩,R3,hz3⟩:=(OV (c:=c) (D:=D) hr).at hz2 R2
   cases hf:D.find (D.cursor+1) with
   |none=>
    rw[hf] at C3
    obtain⟨zs4,⟨d4,hd4,C4⟩,R4,hz4⟩:=(jd (c:=c) (D:=D) (x:=D.cursor+1) (y:=0) (by omega) (by omega) (by omega) (by omega)).at hz3 R3
    exact⟨zs4,⟨d1+d2+d3+d4,by omega,Aa k0 hk' hm C1 C2 C3 C4⟩,R4⟩
   |some t=>
    rw[hf] at C3
    have hdd:D.dead (D.cursor+1)=t.mr.dead:=by unfold Wd.dead;rw[hf]
    have hbb:D.fM (D.cursor+1)=decide (t.mr.color=D.parity):=by unfold Wd.fM;rw[hf]
    obtain⟨zs4,⟨d4,hd4,C4⟩,R4,hz4⟩:=(tintFns.dead c D (D.cursor+1) hr).at hz3 R3
    rw[hdd] at C4
    unfold Wd.reapAt
    simp only
    cases hd:t.mr.dead with
    |true=>
     rw[hd] at C4
     rw[if_pos (.inl rfl)]
     obtain⟨zs5,⟨d5,hd5,C5⟩,R5,hz5⟩:=(jd (c:=c) (D:=D) (x:=D.cursor+1) (y:=0) (by omega) (by omega) (by omega) (by omega)).at hz4 R4
     exact⟨zs5,⟨d1+d2+d3+d4+d5,by omega,zY k0 hk' hm C1 C2 C3 C4 C5⟩,R5⟩
    |false=>
     rw[hd] at C4
     obtain⟨zs5,⟨d5,hd5,C5⟩,R5,hz5⟩:=(tintFns.fM c D (D.cursor+1) hr).at hz4 R4
     rw[hbb] at C5
     by_cases hc:t.mr.color=D.parity
     ·rw[decide_eq_true hc] at C5
      rw[if_pos (.inr hc)]
      obtain⟨zs6,⟨d6,hd6,C6⟩,R6,hz6⟩:=(jd (c:=c) (D:=D) (x:=D.cursor+1) (y:=0) (by omega) (by omega) (by omega) (by omega)).at hz5 R5
      exact⟨zs6,⟨d1+d2+d3+d4+d5+d6,by omega,xy k0 hk' hm C1 C2 C3 C4 C5 C6⟩,R6⟩
     ·rw[decide_eq_false hc] at C5
      rw[if_neg (fun h=>h.elim (fun h=>by cases h) hc)]
      by_cases hff:D.field<(t.pt.length:Int)
      ·obtain⟨j,hj⟩:=Int.eq_ofNat_of_zero_le f0
       have hjl:j<t.pt.length:=by omega
       have hsz:=(R5.szt hm S (find_live hf).1).small
       obtain⟨zs6,⟨d6,hd6,C6⟩,R6,hz6⟩:=(Kk (c:=c) S hf hd hjl).at hz5 R5
       obtain⟨zs7,⟨d7,hd7,C7⟩,R7,hz7⟩:=(jd (c:=c) (D:=D.empt (D.cursor+1) j (nth t.pt j)) (x:=D.cursor) (y:=(j:Int)+1) (by omega) (by omega) (by omega) (by omega)).at hz6 R6
       rw[if_pos hff]
       rw[hj] at C1 ⊢
       rw[Int.toNat_natCast]
       exact⟨zs7,⟨d1+d2+d3+d4+d5+d6+d7,by omega,EO (f:=(j:Int)) (by omega) (by omega) k0 hk' hm C1 C2 C3 C4 C5 C6 C7⟩,R7⟩
      ·obtain⟨zs6,⟨d6,hd6,C6⟩,R6,hz6⟩:=(BO (c:=c) hf hff).at hz5 R5
       obtain⟨zs7,⟨d7,hd7,C7⟩,R7,hz7⟩:=(tintFns.paint c D (D.cursor+1) hr).at hz6 R6
       obtain⟨zs8,⟨d8,hd8,C8⟩,R8,hz8⟩:=(jd (c:=c) (D:=D.paint (D.cursor+1)) (x:=D.cursor+1) (y:=0) (by omega) (by omega) (by omega) (by omega)).at hz7 R7
       rw[if_neg hff]
       exact⟨zs8,⟨d1+d2+d3+d4+d5+d6+d7+d8,by omega,zZ k0 hk' hm C1 C2 C3 C4 C5 C6 C7 C8⟩,R8⟩
  ·have e:D.reapB=false:=by unfold Wd.reapB;simp[hk]
   rw[reap_idle e,e]
   exact⟨zs2,⟨d1+d2,by omega,CK (by rw[←hN];omega) C1 C2⟩,R2⟩
 ·have e:=reap_no hp
  rw[reap_idle e,e]
  exact⟨zs2,⟨d1+d2,by omega,xz hp C1 C2⟩,R2⟩
end
def PM:Wd:=(Wd.new 2 16).born 1 0
def QH:Wd:=PM.born 1 0
def KT:Wd:=QH.put 1 0 2 0
def NA:Wd:=KT.put 2 0 1 0
def Nz:Wd:=NA.less 1
def IG:Wd:=Nz.less 2
def Qf:Wd:=IG.turn.begin 1
def Qd:Wd:=(aF 4 Qf).begin 2
def QX:Wd:=bG 2 Qd
def KU:Wd:=QX.begin 3
def KV:Wd:=KU.reap
def KW:Wd:=KV.reap
def EQ:Wd:=KW.reap
theorem KZ:(Wd.new 2 16).mkE 1 0=0∧(Wd.new 2 16).mkR 1 0=1:=by decide
theorem La:PM.mkE 1 0=0∧PM.mkR 1 0=2:=by decide
theorem Lb:∀j:Fin 4,(aF j Qf).bv=true:=by decide
theorem IJ:(aF 4 Qf).bv=false:=by decide
theorem KY:∀j:Fin 2,(bG j Qd).bu=true:=by decide
theorem II:(bG 2 Qd).bu=false:=by decide
theorem Ab:KU.reapB=true∧KV.reapB=true∧KW.reapB=true:=by decide
theorem ER:EQ.pending=1∧EQ.cnt 2=0∧IG.pending=0:=by decide
theorem KX:0≤KU.field∧0≤KV.field∧0≤KW.field:=by decide
def Qe(h:Nat)(x:Int)(n:Int):Th:=⟨h,[],[x],[],false,⟨n,0,0,0,0,false,0,0⟩⟩
theorem Oo:QH.find 1=some (Qe 0 0 1):=by rfl
theorem QI:QH.find 2=some (Qe 1 0 1):=by rfl
theorem Oq:KT.find 2=some (Qe 1 0 2):=by rfl
theorem QJ:KT.find 1=some (Qe 0 2 1):=by rfl
theorem QK:NA.find 1=some (Qe 0 2 2):=by rfl
theorem QL:Nz.find 2=some (Qe 1 1 2):=by rfl
set_option maxHeartbeats 2000000 in
theorem kI(w:World):Calls Tryz.prog 7 #[] w fun e w'=>e=.returned (.bool true)∧Below w.heap.size w w':=by
 go_enter Tryz.func7,Tryz.ntmps7
 go_wp2_with fail
 refine(vS Gm 2 _ (by decide) (by decide)).mono ?_
 rintro e w0 ⟨p,q,lo,rfl,h,_,_,_,_⟩
 have H0:=hid h
 have I0:=hid (PInv.new (gY 2) (v:=16) (by decide))
 have HB1:=hid (Gb (gY 2) (Wd.new 2 16) 1 0 h)
 rw[KZ.1,KZ.2,show(Wd.new 2 16).born 1 0=PM from rfl] at HB1
 clear h
 go_wp2_with fail
 refine HB1.out.mono ?_
 rintro e w1 ⟨rfl,h1,_,hOk⟩
 have I1:Hid (PInv (gY 2) 1 PM):=hid (I0.out.born hOk)
 have HB2:=hid (Gb (gY 2) PM 1 0 h1)
 rw[La.1,La.2,show PM.born 1 0=QH from rfl] at HB2
 clear h1 hOk
 go_wp2_with fail
 refine HB2.out.mono ?_
 rintro e w2 ⟨rfl,h2,_,hOk⟩
 have H2:=hid h2
 have I2:PInv (gY 2) 2 QH:=I1.out.born hOk
 have I3:PInv (gY 2) 3 KT:=I2.put Oo rfl 0 2 0
 have I4:PInv (gY 2) 4 NA:=I3.put Oq rfl 0 1 0
 have I5:PInv (gY 2) 5 Nz:=I4.Og 1
 have HI6:Hid (PInv (gY 2) 6 IG):=hid (I5.Og 2)
 have HP1:=hid (ld_Put (c:=gY 2) (x:=2) (i:=0) I2.san Oo rfl (by decide) (.inr ⟨_,QI,rfl,by decide⟩) (by decide) (by decide))
 have HP2:=hid (ld_Put (c:=gY 2) (x:=1) (i:=0) I3.san Oq rfl (by decide) (.inr ⟨_,QJ,rfl,by decide⟩) (by decide) (by decide))
 have HL1:=hid (ld_Let (c:=gY 2) QK rfl (by decide) (by decide) (by decide))
 have HL2:=hid (ld_Let (c:=gY 2) QL rfl (by decide) (by decide) (by decide))
 have HPe:=hid ((vw (c:=gY 2) (D:=IG)).as (vi ER.2.2) rfl)
 clear h2 hOk I2 I3 I4 I5
 go_wp2_with fail
 refine(H2.out.does HP1.out).mono ?_
 rintro e w3 ⟨rfl,h,_⟩
 have H3:Hid (RSt w p (gY 2) KT w3):=hid h
 clear h
 go_wp2_with fail
 refine(H3.out.does HP2.out).mono ?_
 rintro e w4 ⟨rfl,h,_⟩
 have H4:Hid (RSt w p (gY 2) NA w4):=hid h
 clear h
 go_wp2_with fail
 refine(H4.out.does HL1.out).mono ?_
 rintro e w5 ⟨rfl,h,_⟩
 have H5:Hid (RSt w p (gY 2) Nz w5):=hid h
 clear h
 go_wp2_with fail
 refine(H5.out.does HL2.out).mono ?_
 rintro e w6 ⟨rfl,h,_⟩
 have H6:Hid (RSt w p (gY 2) IG w6):=hid h
 clear h
 go_wp2_with fail
 refine(H6.out.does HPe.out).mono ?_
 rintro e w7 ⟨rfl,h,_⟩
 have H7:Hid (RSt w p (gY 2) IG w7):=hid h
 clear h
 go_wp2_with fail
 refine(Ny H7.out HI6.out (by decide) (by decide)).mono ?_
 rintro e w8 ⟨m,n,rfl,t1,t2,f1,f2,_,hS,hsn,_⟩
 have t1:∀j,j<m→(aF j Qf).bv=true:=t1
 have t2:(aF m Qf).bv=false:=t2
 obtain rfl:m=4:=last_one (P:=fun j=>(aF j Qf).bv) t1 t2 (fun j hj=>Lb ⟨j,hj⟩) IJ
 have f1:∀j,j<n→(bG j Qd).bu=true:=f1
 have f2:(bG n Qd).bu=false:=f2
 obtain rfl:n=2:=last_one (P:=fun j=>(bG j Qd).bu) f1 f2 (fun j hj=>KY ⟨j,hj⟩) II
 have H8:Hid (RSt w p (gY 2) QX w8):=hid hS
 have s0:San KU:=San.dI (D:=QX) hsn rfl rfl rfl rfl (fun b hb=>.inl hb)
 have s1:San KV:=s0.reap KX.1
 have s2:San KW:=s1.reap KX.2.1
 have HBe:=hid (ld_begin (c:=gY 2) (D:=QX) 3 (by decide) (by decide))
 have HR1:=hid ((uu (c:=gY 2) s0).as (vb Ab.1) rfl)
 have HR2:=hid ((uu (c:=gY 2) s1).as (vb Ab.2.1) rfl)
 have HR3:=hid ((uu (c:=gY 2) s2).as (vb Ab.2.2) rfl)
 have HPf:=hid ((vw (c:=gY 2) (D:=EQ)).as (vi ER.1) rfl)
 have HCn:=hid ((Ei (c:=gY 2) (D:=EQ) (xn 2)).as (vi ER.2.1) rfl)
 clear hS hsn t1 t2 f1 f2 s0 s1 s2
 go_wp2_with fail
 refine(H8.out.does HBe.out).mono ?_
 rintro e w9 ⟨rfl,h,_⟩
 have H9:Hid (RSt w p (gY 2) KU w9):=hid h
 clear h
 go_wp2_with fail
 refine(H9.out.does HR1.out).mono ?_
 rintro e w10 ⟨rfl,h,_⟩
 have H10:Hid (RSt w p (gY 2) KV w10):=hid h
 clear h
 go_wp2_with fail
 refine(H10.out.does HR2.out).mono ?_
 rintro e w11 ⟨rfl,h,_⟩
 have H11:Hid (RSt w p (gY 2) KW w11):=hid h
 clear h
 go_wp2_with fail
 refine(H11.out.does HR3.out).mono ?_
 rintro e w12 ⟨rfl,h,_⟩
 have H12:Hid (RSt w p (gY 2) EQ w12):=hid h
 clear h
 go_wp2_with fail
 refine(H12.out.does HPf.out).mono ?_
 rintro e w13 ⟨rfl,h,_⟩
 have H13:Hid (RSt w p (gY 2) EQ w13):=hid h
 clear h
 go_wp2_with fail
 refine(H13.out.does HCn.out).mono ?_
 rintro e w14 ⟨rfl,h,_⟩
 have H14:Hid (RSt w p (gY 2) EQ w14):=hid h
 clear h
 go_wp2_with fail
 go_ret
 exact⟨rfl,H14.out.below⟩
theorem Dm(w:World):Calls Tryz.prog 12 #[.pointer none] w fun e w'=>e=.returned (.bool false)∧Below w.heap.size w w':=by
 have HP:=hid (fun w:World=>LD w)
 go_enter Tryz.func12,Tryz.ntmps12
 go_wp2_with fail
 refine(QM _).mono ?_
 rintro e w1 ⟨rfl,hb⟩
 have HB1:=hid hb
 clear hb
 go_wp2_with fail
 refine(HP.out _).mono ?_
 rintro e w2 ⟨rfl,hb⟩
 have HB2:=hid (ay HB1.out hb)
 clear hb
 go_wp2_with fail
 go_ret
 exact⟨rfl,HB2.out⟩
theorem CE{D:Wd}(h:D.phase=3)(hk:D.cursor<(D.n:Int)):D.reapB=true:=by
 unfold Wd.reapB
 simp[h,hk]
set_option maxHeartbeats 2000000 in
theorem vV(ph:Int)(n:Nat)(hn:n<256)(w:World):
  Calls Tryz.prog 6 #[.int .i64 ph,.int .u8 (n:Int)] w fun e w'=>e=.returned (.bool true)∧Below w.heap.size w w':=by
 have HGw:=hid (fun(w:World) (a:Option Addr)=>Iq n hn a w)
 have HNn:Hid (1≤n%60+4):=hid (by omega)
 clear hn
 go_enter Tryz.func6,Tryz.ntmps6
 go_wp2_with fail
 refine(HGw.out _ _ (KR _ _)).mono ?_
 rintro e w1 ⟨p,v,cv,D,rfl,hS,hSan,hDy⟩
 have hn:D.n=n%60+4:=by
  obtain⟨zs,m,_,hR,_⟩:=hS
  exact hR.n
 have HB1:=hid (below_new w (.cells #[.int .i64 2,.int .i64 0,.int .i64 1,.int .i64 0] 31))
 have HS1:=hid hS
 have HSan:=hid hSan
 have HDn:=hid hn
 clear hS hSan hDy hn
 go_wp2_with fail
 refine(Dm _).mono ?_
 rintro e w2 ⟨rfl,hb⟩
 have HS3:=hid (HS1.out.later hb)
 clear hb
 by_cases hp:0≤ph∧ph≤3
 ·have HBe:=hid (ld_begin (c:=gY (n%60+4)) (D:=D) ph hp.1 hp.2)
  have hsn:San (D.begin ph):=HSan.out.dI rfl rfl rfl rfl (fun b hb=>.inl hb)
  have HFl:=hid (uu (c:=gY (n%60+4)) hsn)
  have hfb:(D.begin ph).reapB=(ph==3):=by
   by_cases h2:ph=3
   ·subst h2
    rw[CE rfl (by rw[show(D.begin 3).cursor=0 from rfl,show(D.begin 3).n=D.n from rfl,HDn.out];have:=HNn.out;omega)]
    rfl
   ·rw[reap_no h2]
    symm
    rw[beq_eq_false_iff_ne]
    exact h2
  rw[hfb] at HFl
  clear hsn hfb
  generalize (D.begin ph).reap=D5 at*
  generalize D.begin ph=D4 at*
  cases hph:(ph==3)
  ·rw[hph] at HFl
   go_wp2_with fail
   refine(HS3.out.does HBe.out).mono ?_
   rintro e w4 ⟨rfl,h,_⟩
   have HS4:=hid h
   clear h
   go_wp2_with fail
   refine(HS4.out.does HFl.out).mono ?_
   rintro e w5 ⟨rfl,h,_⟩
   have HS5:=hid h
   clear h
   go_wp2_with fail
   refine(kI _).mono ?_
   rintro e w9 ⟨rfl,hb⟩
   have HB9:=hid (ay (ay HB1.out HS5.out.below) hb)
   clear hb
   go_wp2_with fail
   go_ret
   exact⟨rfl,HB9.out⟩
  ·rw[hph] at HFl
   go_wp2_with fail
   refine(HS3.out.does HBe.out).mono ?_
   rintro e w4 ⟨rfl,h,_⟩
   have HS4:=hid h
   clear h
   go_wp2_with fail
   refine(HS4.out.does HFl.out).mono ?_
   rintro e w5 ⟨rfl,h,_⟩
   have HS5:=hid h
   clear h
   go_wp2_with fail
   refine(kI _).mono ?_
   rintro e w9 ⟨rfl,hb⟩
   have HB9:=hid (ay (ay HB1.out HS5.out.below) hb)
   clear hb
   go_wp2_with fail
   go_ret
   exact⟨rfl,HB9.out⟩
 ·have e:LY ph=false:=decide_eq_false hp
  have HBe:=hid (tintFns.begin_ (gY (n%60+4)) D ph)
  rw[e] at HBe
  clear e
  by_cases h0:ph<0
  ·go_wp2_with fail
   refine(HS3.out.does HBe.out).mono ?_
   rintro e w4 ⟨rfl,h,_⟩
   have HS4:=hid h
   clear h
   go_wp2_with fail
   refine(kI _).mono ?_
   rintro e w9 ⟨rfl,hb⟩
   have HB9:=hid (ay (ay HB1.out HS4.out.below) hb)
   clear hb
   go_wp2_with fail
   go_ret
   exact⟨rfl,HB9.out⟩
  ·have h3:3<ph:=by omega
   go_wp2_with fail
   refine(HS3.out.does HBe.out).mono ?_
   rintro e w4 ⟨rfl,h,_⟩
   have HS4:=hid h
   clear h
   go_wp2_with fail
   refine(kI _).mono ?_
   rintro e w9 ⟨rfl,hb⟩
   have HB9:=hid (ay (ay HB1.out HS4.out.below) hb)
   clear hb
   go_wp2_with fail
   go_ret
   exact⟨rfl,HB9.out⟩
end Go.Proofs.YtjmifnljckmimaaGreat.Pk
