/-
  Texts laid together: TallyOne, FloodInv, FloodFin, FloodFindF, ReapOut, ReapW, ReapDo.
-/
import Derived.Test.YtjmifnljckmimaaGreatRefSeeEtc
import Derived.Test.YtjmifnljckmimaaGreatGravGrownEtc
import Derived.Test.YtjmifnljckmimaaGreatWholeRowFEtc
import Derived.Test.YtjmifnljckmimaaGreatFloodWEtc
import Derived.Test.YtjmifnljckmimaaGreatTameEtc
import Derived.Test.YtjmifnljckmimaaGreatReapFnEtc
import Derived.Test.YtjmifnljckmimaaGreatObjFn4Etc
namespace Go.Proofs.YtjmifnljckmimaaGreat.Pk
open Lib (hid)
open Go.RowKit
set_option linter.unusedVariables false
set_option linter.unusedSimpArgs false
set_option maxRecDepth 100000
structure iO (c:Cf) (hold:Nat→Nat) (k:Nat) (ph:Int) (D:Wd):Prop where
 li:fK hold k D
 tm:TM D
 pi:PInv c k D
 fl:D.field≤100000
 phs:D.phase=ph
def hN(hold:Nat→Nat)(i:Nat):Nat:=if i=0 then 0 else hold (i-1)
def FT(w:World)(p:Pl)(c:Cf)(q k:Nat)(ph:Int)(D:Wd)(hold:Nat→Nat)(wr:World):Prop:=
 RSt w p c D wr∧iO c hold k ph D∧Blk wr q (dA (fun i=>.int .i64 ((hN hold i:Nat):Int)) (c.N+1)) 3∧¬iK p q∧w.heap.size≤q
section
variable {w wr w':World} {p:Pl} {c:Cf} {q k:Nat} {D D':Wd} {hold hold':Nat→Nat} {ph:Int} {t u:Th} {r x y i:Int}
theorem iO.mono{K:Nat}(O:iO c hold k ph D)(h:k≤K):iO c hold K ph D:=⟨O.li.mono h,O.tm,O.pi.mono h,O.fl,O.phs⟩
theorem iO.new{v:Nat}(hv:16≤v):iO c (fun _=>0) 0 0 (Wd.new c.N v):=⟨fK.new c.N hv,.inl ⟨rfl,bu.new _ _⟩,PInv.new c hv,show(0:Int)≤100000 by decide,rfl⟩
theorem iO.put(O:iO c hold k ph D)(hf:D.find r=some t)(hd:t.mr.dead=false){j:Nat}(hi:j<t.pt.length)(hx:x=0∨∃u,D.find x=some u∧u.mr.dead=false):iO c hold (k+1) ph (D.put r j x (nth t.pt j)):=
 ⟨(O.li.put hf hd hi hx).mono (Nat.le_succ k),O.tm.put O.li.san O.li.nam hf hd hi,O.pi.put hf hd j x _,by rw[(kM r j x (nth t.pt j)).2.2.1];exact O.fl,(kM r j x (nth t.pt j)).2.2.2.trans O.phs⟩
theorem iO.more(O:iO c hold k ph D)(hf:D.find r=some u)(hd:u.mr.dead=false)(hh:∀h:Nat,hold' h=hold h+if(h:Int)+1=r then 1 else 0):iO c hold' (k+1) ph (D.more r):=
 ⟨O.li.up hf hd hh,O.tm.up O.li.san r,O.pi.to (O.li.san.more r) (O.pi.bd.more r) (ut r),by rw[(eF r).2.2.1];exact O.fl,(eF r).2.2.2.trans O.phs⟩
theorem iO.less(O:iO c hold k ph D)(hh:∀h:Nat,hold h=hold' h+if(h:Int)+1=r then 1 else 0):iO c hold' (k+1) ph (D.less r):=
 ⟨(O.li.let hh).mono (Nat.le_succ k),O.tm.less O.li.san r,O.pi.to (O.li.san.less r) ((O.pi.bd.less r).mono (Nat.le_succ k)) (zU r),by rw[(iD r).2.2.1];exact O.fl,(iD r).2.2.2.trans O.phs⟩
theorem iO.born(O:iO c hold k ph D)(B:BornOk D x y c.N)(hE:D.mkE x y=0)(hh:∀h:Nat,hold' h=hold h+if h=D.mkB then 1 else 0):iO c hold' (k+1) ph (D.born x y):=
 ⟨O.li.born B hE hh,O.tm.born O.li.san B,O.pi.born B,by rw[jd.2.2.1];exact O.fl,jd.2.2.2.trans O.phs⟩
theorem RSt.fields(h:RSt w p c D wr):0≤D.field:=by
 obtain⟨zs,m,hG,hR,_⟩:=h
 exact(hR.curs hG.wz).2.1
theorem iO.step(O:iO c hold k ph D)(hF:0≤D.field):iO c hold (k+1) ph D.step:=
 iO.mono ⟨O.li.step,O.tm.step O.li.san O.li.nam hF,O.pi.step,by rw[jl.2.2.1];exact O.fl,jl.2.2.2.trans O.phs⟩ (Nat.le_succ k)
theorem LC(h:D.field≤100000)(hs:∀t,t∈D.live→t.pt.length≤100000):D.tally.field≤100000:=by
 unfold Wd.tally
 split
 ·unfold Wd.tallyAt
  cases hf:D.find (D.cursor+1) with
  |none=>exact(show(0:Int)≤100000 by decide)
  |some t=>
   have:=hs t (find_live hf).1
   simp only
   split
   ·exact(show(0:Int)≤100000 by decide)
   ·split
    ·show D.field+1≤100000
     omega
    ·exact(show(0:Int)≤100000 by decide)
 ·exact h
theorem Nam.tally(N:Nam hold D)(S:San D):Nam hold D.tally:=by
 unfold Wd.tally
 split
 ·unfold Wd.tallyAt
  split
  ·exact N.ts rfl
  ·split
   ·exact N.ts rfl
   ·split
    ·exact(N.mark S _ (f:=fun m=>{m with shade:=D.parity,shadow:=D.shd (nth _ D.field.toNat)+1}) (fun _=>rfl) (fun _=>rfl)).ts rfl
    ·exact(N.mark S _ (f:=fun m=>{m with count:=D.parity}) (fun _=>rfl) (fun _=>rfl)).ts rfl
 ·exact N
theorem Pos1.tally(P:Pos1 x D)(S:San D):Pos1 x D.tally:=by
 unfold Wd.tally
 split
 ·unfold Wd.tallyAt
  split
  ·exact P.ts rfl
  ·split
   ·exact P.ts rfl
   ·split
    ·exact(P.mark S _ (f:=fun m=>{m with shade:=D.parity,shadow:=D.shd (nth _ D.field.toNat)+1}) (fun _=>rfl) (fun _ h=>h)).ts rfl
    ·exact(P.mark S _ (f:=fun m=>{m with count:=D.parity}) (fun _=>rfl) (fun _ h=>h)).ts rfl
 ·exact P
theorem LF:D.tally.live.map Th.h=D.live.map Th.h:=by
 unfold Wd.tally
 split
 ·unfold Wd.tallyAt
  split
  ·rfl
  ·split
   ·rfl
   ·split
    ·exact aX (D:=D) _ (fun m=>{m with shade:=D.parity,shadow:=D.shd (nth _ D.field.toNat)+1})
    ·exact aX (D:=D) _ (fun m=>{m with count:=D.parity})
 ·rfl
theorem fK.tally(I:fK hold k D):fK hold k D.tally:=⟨I.san.tally,I.nam.tally I.san,I.pos.tally I.san,I.bd,si I LF⟩
theorem iO.tally(O:iO c hold k ph D)(hF:0≤D.field)(hs:∀t,t∈D.live→t.pt.length≤100000):iO c hold (k+1) ph D.tally:=
 ⟨O.li.tally.mono (Nat.le_succ k),O.tm.tally O.li.san hF,O.pi.tally,LC O.fl hs,kQ.1.trans O.phs⟩
theorem FT.later(h:FT w p c q k ph D hold wr)(hb:Below wr.heap.size wr w'):FT w p c q k ph D hold w':=⟨h.1.later hb,h.2.1,h.2.2.1.later hb,h.2.2.2.1,h.2.2.2.2⟩
theorem FT.refs(h:FT w p c q k ph D hold wr)(hk:k≤1000)(hf:D.find r=some t):t.mr.refs<4294967295:=by
 have:=(h.2.1.pi.bd r t hf).1
 omega
theorem FT.up(h:FT w p c q k ph D hold wr):FT w p c q (k+1) ph D hold wr:=⟨h.1,h.2.1.mono (Nat.le_succ k),h.2.2⟩
theorem FT.does{K:Nat}{f:FuncId}{args:List Value}{B:Nat}{v:Value}(h:FT w p c q k ph D hold wr)(ha:Does c D f args B D' v)(I:iO c hold K ph D'):
  Calls Tryz.prog f (List.toArray (.pointer (some ⟨p.a,0,none⟩)::args)) wr fun e w'=>e=.returned v∧FT w p c q K ph D' hold w'∧Touch (inG p) wr w':=by
 refine(h.1.does ha).mono ?_
 rintro e w' ⟨rfl,h1,hT⟩
 exact⟨rfl,⟨h1,I,h.2.2.1.touch hT (fun hx=>h.2.2.2.1 (Or.inr hx)),h.2.2.2⟩,hT⟩
theorem FT.put(h:RSt w p c D wr)(I:iO c hold' k ph D)(hb:Blk wr q (dA (fun i=>.int .i64 ((hN hold i:Nat):Int)) (c.N+1)) 3)(hq:¬iK p q)(hl:w.heap.size≤q){b j:Nat}(hj:j=b+1){v:Int}(hv:v=((hold' b:Nat):Int))(hh:∀h,h≠b→hold' h=hold h):FT w p c q k ph D hold' (wr.setCell ⟨q,j,none⟩ (.int .i64 v)):=by
 subst hj
 have hT:=(Touch.refl (fun i=>i=q) wr).setCell (p:=⟨q,b+1,none⟩) (fun _=>rfl) (.int .i64 v)
 refine⟨h.touch hT (fun i hi e=>hq (e▸hi)) (fun i e=>by rw[e];exact hl),I,?_,hq,hl⟩
 have:=hb.set (b+1) (.int .i64 v)
 rw[kX] at this
 rw[show dA (fun i=>Value.int .i64 ((hN hold' i:Nat):Int)) (c.N+1)=dA (fun j=>if j=b+1 then Value.int .i64 v else Value.int .i64 ((hN hold j:Nat):Int)) (c.N+1) from jO (fun j _=>by
  by_cases e:j=b+1
  ·rw[if_pos e,e,hv]
   rfl
  ·rw[if_neg e]
   unfold hN
   by_cases e0:j=0
   ·rw[if_pos e0,if_pos e0]
   ·rw[if_neg e0,if_neg e0,hh (j-1) (by omega)])]
 exact this
theorem FT.cell(h:Blk wr q (dA (fun i=>.int .i64 ((hN hold i:Nat):Int)) (c.N+1)) 3){b j:Nat}(hj:j=b+1)(hb:b<c.N):wr.cell? ⟨q,j,none⟩=some (.int .i64 ((hold b:Nat):Int)):=by
 subst hj
 exact h.arr (show b+1<c.N+1 by omega)
end
section
variable {w wr:World} {p:Pl} {c:Cf} {q k:Nat} {D:Wd} {hold:Nat→Nat} {ph:Int}
end
section
variable {D D':Wd} {t u:Th} {r x:Int} {hold:Nat→Nat} {k:Nat} {c:Cf}
theorem flood_ind{P:Wd→Prop}(S:San D)(h0:P D)(hm:∀D r,San D→P D→P (D.settle r))(ht:∀D r,San D→P D→P (D.touch r))(hn:∀D D',P D→D'.ts=D.ts→(∀b,b∈D'.ring→b∈D.ring)→D'.clean=D.clean→D'.grave=D.grave→D'.pending=D.pending→D'.w=D.w→D'.n=D.n→P D'):P D.flood:=by
 unfold Wd.flood
 split
 ·split
  ·split
   ·rename_i b rest hr
    exact hn D _ h0 rfl (fun c hc=>by rw[hr];exact List.mem_cons_of_mem _ hc) rfl rfl rfl rfl rfl
   ·refine hn (D.bH (D.cursor+1) (D.find (D.cursor+1))) D.zV ?_ rfl (fun _ h=>h) rfl rfl rfl rfl rfl
    unfold Wd.bH
    split
    ·exact h0
    ·split
     ·exact h0
     ·split
      ·exact ht _ _ (S.settle _) (hm _ _ S h0)
      ·exact hm _ _ S h0
  ·unfold Wd.jv
   split
   ·exact hn D _ h0 rfl (fun _ h=>h) rfl rfl rfl rfl rfl
   ·split
    ·exact hn _ _ (ht _ _ S h0) rfl (fun _ h=>h) rfl rfl rfl rfl rfl
    ·exact hn D _ h0 rfl (fun _ h=>h) rfl rfl rfl rfl rfl
 ·exact h0
theorem Nam.flood(N:Nam hold D)(S:San D):Nam hold D.flood:=
 flood_ind (P:=Nam hold) S N (fun D r S N=>N.mark S r (f:=fun m=>{m with shade:=D.parity,shadow:=D.shd r}) (fun _=>rfl) (fun _=>rfl)) (fun D r S N=>N.touch S r) (fun D D' N h _ _ _ _ _ _=>N.ts h)
theorem Pos1.flood(N:Pos1 x D)(S:San D):Pos1 x D.flood:=
 flood_ind (P:=Pos1 x) S N (fun D r S N=>N.mark S r (f:=fun m=>{m with shade:=D.parity,shadow:=D.shd r}) (fun _=>rfl) (fun _ h=>h)) (fun D r S N=>N.touch S r) (fun D D' N h _ _ _ _ _ _=>N.ts h)
theorem Ka(S:San D):D.flood.live.map Th.h=D.live.map Th.h:=
 flood_ind (P:=fun E=>E.live.map Th.h=D.live.map Th.h) S rfl (fun E r _ h=>(aX (D:=E) r (fun m=>{m with shade:=E.parity,shadow:=E.shd r})).trans h) (fun E r _ h=>(wM r).trans h) (fun E E' h e _ _ _ _ _ _=>by
  have:E'.live=E.live:=by unfold Wd.live;rw[e]
  rw[this]
  exact h)
theorem JZ(S:San D):D.flood.ts.map Th.h=D.ts.map Th.h:=
 flood_ind (P:=fun E=>E.ts.map Th.h=D.ts.map Th.h) S rfl (fun E r _ h=>(dF (D:=E) r (fun m=>{m with shade:=E.parity,shadow:=E.shd r})).trans h) (fun E r _ h=>(wL r).trans h) (fun E E' h e _ _ _ _ _ _=>by rw[e];exact h)
theorem fK.flood(I:fK hold k D):fK hold k D.flood:=⟨I.san.flood,I.nam.flood I.san,I.pos.flood I.san,I.bd,si I (Ka I.san)⟩
theorem fF.flood(h:fF k D)(S:San D):fF k D.flood:=
 flood_ind (P:=fF k) S h (fun E r _ h=>h.mark r (fun m=>{m with shade:=E.parity,shadow:=E.shd r}) (Nat.le_refl _) (fun t ht=>⟨(h r t ht).1,h.shd r⟩)) (fun E r _ h=>h.touch r) (fun E E' h e _ _ _ _ _ _=>h.ts e)
theorem PInv.flood(I:PInv c k D):PInv c k D.flood:=⟨I.san.flood,I.bd.flood I.san,by rw[JZ I.san];exact I.hd⟩
def Mj(ph:Int)(D:Wd):Prop:=(ph=0∧D.phase=0)∨(ph=1∧(D.phase=1∨D.phase=2))
theorem Mj.of{ph:Int}(h:Mj ph D)(e:D'.phase=D.phase):Mj ph D':=by
 unfold Mj at*
 rw[e]
 exact h
end
def Qr(t:Th):Nat × List Int × Bool × Int:=(t.h,t.pt,t.mr.dead,t.mr.refs)
def Pt(D D':Wd):Prop:=∀q,(D'.find q).map Qr=(D.find q).map Qr
structure BK (m:Int→Prop) (D:Wd):Prop where
 col:∀x t,D.find x=some t→t.mr.color=D.parity→m x
 ring:∀b,b∈D.ring→m ((b:Int)+1)
 scan:D.scan≠0→m D.scan
section
variable {D D' D2:Wd} {t u v:Th} {r x y q:Int} {hold:Nat→Nat} {l fl:List Int} {m:Int→Prop} {N:Nat}
theorem Pt.refl(D:Wd):Pt D D:=fun _=>rfl
theorem Pt.trans(h:Pt D D')(k:Pt D' D2):Pt D D2:=fun q=>(k q).trans (h q)
theorem Pt.symm(h:Pt D D'):Pt D' D:=fun q=>(h q).symm
theorem Pt.ts(h:D'.ts=D.ts):Pt D D':=fun q=>by unfold Wd.find;rw[h]
theorem Pt.mark(D:Wd)(r:Int){f:Mrk→Mrk}(h1:∀m,(f m).dead=m.dead)(h2:∀m,(f m).refs=m.refs):Pt D (D.mark r f):=fun q=>by
 rw[find_mark]
 cases D.find q with
 |none=>rfl
 |some t=>
  simp only[Option.map_some]
  split
  ·unfold Qr
   simp only[h1,h2]
  ·rfl
theorem Pt.touch(D:Wd)(r:Int):Pt D (D.touch r):=by
 rcases touch_ts (D:=D) r with h|h
 ·exact Pt.ts h
 ·exact(Pt.mark D r (f:=fun m=>{m with color:=D.parity}) (fun _=>rfl) (fun _=>rfl)).trans (Pt.ts h)
theorem Pt.tally(D:Wd):Pt D D.tally:=by
 unfold Wd.tally
 split
 ·unfold Wd.tallyAt
  split
  ·exact Pt.ts rfl
  ·split
   ·exact Pt.ts rfl
   ·split
    ·exact(Pt.mark D _ (f:=fun m=>{m with shade:=D.parity,shadow:=D.shd _+1}) (fun _=>rfl) (fun _=>rfl)).trans (Pt.ts rfl)
    ·exact(Pt.mark D _ (f:=fun m=>{m with count:=D.parity}) (fun _=>rfl) (fun _=>rfl)).trans (Pt.ts rfl)
 ·exact Pt.refl D
theorem Pt.flood(S:San D):Pt D D.flood:=
 flood_ind (P:=Pt D) S (Pt.refl D) (fun E r _ h=>h.trans (Pt.mark E r (f:=fun m=>{m with shade:=E.parity,shadow:=E.shd r}) (fun _=>rfl) (fun _=>rfl))) (fun E r _ h=>h.trans (Pt.touch E r)) (fun E E' h e _ _ _ _ _ _=>h.trans (Pt.ts e))
theorem Pt.some(h:Pt D D')(hf:D.find q=some t):∃t',D'.find q=some t'∧t'.h=t.h∧t'.pt=t.pt∧t'.mr.dead=t.mr.dead∧t'.mr.refs=t.mr.refs:=by
 have h1:=h q
 rw[hf] at h1
 cases hq:D'.find q with
 |none=>rw[hq] at h1;cases h1
 |some t'=>
  rw[hq] at h1
  have h2:Qr t'=Qr t:=Option.some.inj h1
  unfold Qr at h2
  injection h2 with e1 h2
  injection h2 with e2 h2
  injection h2 with e3 e4
  exact⟨t',rfl,e1,e2,e3,e4⟩
theorem Pt.live(h:Pt D D')(S:San D)(ht:t∈D.live):∃t',t'∈D'.live∧t'.h=t.h:=by
 obtain⟨t',h1,h2,_⟩:=h.some (S.findIt ht)
 exact⟨t',(find_live h1).1,h2⟩
theorem Clo.pt(C:Clo D m)(h:Pt D D'):Clo D' m:=fun x t' hx hf i hi hn=>by
 obtain⟨t,ht,_,e2,_⟩:=h.symm.some hf
 rw[←e2] at hi hn ⊢
 exact C x t hx ht i hi hn
theorem Qx.pt(M:Qx D fl m)(h:Pt D D'):Qx D' fl m:=⟨M.1,M.2.1.pt h,fun R C hf x hx=>M.2.2 R (C.pt h.symm) hf x hx⟩
theorem Out.pt(O:Out hold D)(S:San D)(h:Pt D D'):Out hold D':=fun b hb=>O b (fun t ht e=>by
 obtain⟨t',h1,h2⟩:=h.live S ht
 exact hb t' h1 (h2.trans e))
theorem at_find(hf:D.find x=some v)(ha:v.at r=true):x=r:=by
 have:=(find_live hf).2
 unfold Th.at at ha
 simp at ha
 omega
theorem BK.mark(B:BK m D)(r:Int){f:Mrk→Mrk}(hc:∀m,(f m).color=m.color):BK m (D.mark r f):=⟨fun x u hu h=>by
 rw[find_mark] at hu
 cases hx:D.find x with
 |none=>rw[hx] at hu;cases hu
 |some v=>
  rw[hx] at hu
  simp only[Option.map_some] at hu
  refine B.col x v hx ?_
  split at hu
  ·cases hu
   rw[←hc]
   exact h
  ·cases hu
   exact h,B.ring,B.scan⟩
theorem BK.touch(B:BK m D)(hr:∀t,D.find r=some t→m r):BK m (D.touch r):=by
 cases ht:D.toucht r with
 |false=>rw[show D.touch r=D by unfold Wd.touch;rw[ht];rfl];exact B
 |true=>
  cases hf:D.find r with
  |none=>unfold Wd.toucht at ht;rw[hf] at ht;cases ht
  |some t=>
   have hm:=hr t hf
   have er:=(find_live hf).2
   have e:D.touch r={D.paint r with ring:=if hasB (ints D.ring) (r-1) then D.ring else D.ring++[(r-1).toNat]}:=by unfold Wd.touch;rw[ht];rfl
   rw[e]
   refine⟨fun x u hu hc=> ?_,fun b hb=> ?_,B.scan⟩
   ·have hu:(D.mark r (fun m=>{m with color:=D.parity})).find x=some u:=hu
    by_cases hxr:x=r
    ·rw[hxr]
     exact hm
    ·rw[find_mark] at hu
     cases hx:D.find x with
     |none=>rw[hx] at hu;cases hu
     |some v=>
      rw[hx] at hu
      simp only[Option.map_some] at hu
      rw[if_neg (fun ha=>hxr (at_find hx ha))] at hu
      cases hu
      exact B.col x _ hx hc
   ·have hb:b∈(if hasB (ints D.ring) (r-1) then D.ring else D.ring++[(r-1).toNat]):=hb
    split at hb
    ·exact B.ring b hb
    ·rw[List.mem_append,List.mem_singleton] at hb
     rcases hb with hb|rfl
     ·exact B.ring b hb
     ·rw[show(((r-1).toNat:Nat):Int)+1=r by omega]
      exact hm
theorem BK.flood(F:FL hold D)(S:San D)(Nm:Nam hold D)(C:Clo D m)(H:∀b:Nat,0<hold b→m ((b:Int)+1))(B:BK m D):BK m D.flood:=by
 unfold Wd.flood
 split
 ·split
  ·split
   ·rename_i b rest hr
    exact⟨B.col,fun c hc=>B.ring c (by rw[hr];exact List.mem_cons_of_mem _ hc),fun _=>B.ring b (by rw[hr];exact List.mem_cons_self ..)⟩
   ·have key:BK m (D.bH (D.cursor+1) (D.find (D.cursor+1))):=by
     cases hf:D.find (D.cursor+1) with
     |none=>exact B
     |some t=>
      have hs:BK m (D.settle (D.cursor+1)):=B.mark (D.cursor+1) (f:=fun m=>{m with shade:=D.parity,shadow:=D.shd (D.cursor+1)}) (fun _=>rfl)
      unfold Wd.bH
      simp only
      split
      ·exact B
      ·rename_i hd
       split
       ·rename_i hlt
        refine hs.touch (fun _ _=> ?_)
        obtain⟨htl,er⟩:=find_live hf
        by_cases hc:t.mr.color=D.parity
        ·exact B.col _ t hf hc
        ·have hsum:sumL (D.ph ((t.h:Int)+1)) D.ts=sumL (nmT ((t.h:Int)+1)) D.ts:=bY (fun v hv=>by
          show jf D.parity D.cursor D.field _ v=_
          unfold jf oW nmT
          rw[if_pos (F.al v hv),List.take_length])
         have hcnt:=Nm.cnt t htl
         have hsv:=F.ho.sh t htl (fun h=>h) (by cases h:t.mr.dead;rfl;exact absurd h hd) hc
         have hsh:=wu S htl
         rw[er] at hsh
         rw[hsh,hsv,hsum,hcnt] at hlt
         rw[←er]
         exact H t.h (by omega)
       ·exact hs
    exact⟨key.col,key.ring,key.scan⟩
  ·rename_i hs
   unfold Wd.jv
   split
   ·exact⟨B.col,B.ring,fun h=>absurd rfl h⟩
   ·rename_i t hf
    split
    ·rename_i hff
     have h0:=F.sf
     have key:=B.touch (r:=nth t.pt D.scanF.toNat) (fun u hu=>C D.scan t (B.scan hs) hf D.scanF.toNat (by omega) (by have:=(find_live hu).2;omega))
     exact⟨key.col,key.ring,key.scan⟩
    ·exact⟨B.col,B.ring,fun h=>absurd rfl h⟩
 ·exact B
structure TQ (N:Nat) (hold:Nat→Nat) (D:Wd):Prop where
 ci:∃s h f,CI N s h f D
 fm:FM hold D
 nam:Nam hold D
 out:Out hold D
 col:∀t,t∈D.ts→t.mr.color=0
 par:D.parity=1
 ring:D.ring=[]
 scan:D.scan=0
theorem Fv:D.tally.ring=D.ring:=by
 unfold Wd.tally
 split
 ·unfold Wd.tallyAt
  split
  ·rfl
  ·split
   ·rfl
   ·split<;>rfl
 ·rfl
theorem IW(h:∀t,t∈D.ts→t.mr.color=0):∀t,t∈D.tally.ts→t.mr.color=0:=by
 unfold Wd.tally
 split
 ·unfold Wd.tallyAt
  split
  ·exact h
  ·split
   ·exact h
   ·split
    ·exact iI (P:=fun t=>t.mr.color=0) (g:=fun t=>{t with mr:={t.mr with shade:=D.parity,shadow:=D.shd _+1}}) (fun t ht=>ht) _ h
    ·exact iI (P:=fun t=>t.mr.color=0) (g:=fun t=>{t with mr:={t.mr with count:=D.parity}}) (fun t ht=>ht) _ h
 ·exact h
theorem TQ.tally(T:TQ N hold D)(hb:D.bf=true):TQ N hold D.tally:=by
 obtain⟨s,h,f,I⟩:=T.ci
 have hk:h<N:=by
  have:=I.tb
  rw[hb] at this
  exact of_decide_eq_true this.symm
 obtain⟨h',f',I'⟩:=I.tally hk
 exact⟨⟨_,_,_,I'⟩,T.fm.tally I.san (by rw[I.fi];omega),T.nam.tally I.san,T.out.pt I.san (Pt.tally D),IW T.col,kQ.2.trans T.par,Fv.trans T.ring,wG.trans T.scan⟩
theorem TQ.runN(T:TQ N hold D):∀n,(∀j,j<n→(tallyN j D).bf=true)→TQ N hold (tallyN n D)∧Pt D (tallyN n D)
 |0,_=>⟨T,Pt.refl D⟩
 |n+1,h=>by
  obtain⟨h1,h2⟩:=T.runN n (fun j hj=>h j (by omega))
  exact⟨h1.tally (h n (by omega)),h2.trans (Pt.tally (tallyN n D))⟩
structure FQ (N:Nat) (hold:Nat→Nat) (m:Int→Prop) (D:Wd):Prop where
 san:San D
 fm:FM hold D
 nam:Nam hold D
 out:Out hold D
 ph:D.phase=2
 n:D.n=N
 cu:0≤D.cursor
 hlt:∀t,t∈D.live→t.h<N
 clo:Clo D m
 bk:BK m D
theorem FM.RN(T:FM hold D)(h:D.phase=2):FL hold D:=by
 rcases T with⟨h1,_⟩|⟨h1,_⟩|⟨_,F⟩
 ·omega
 ·omega
 ·exact F
theorem yC:D.flood.n=D.n∧(D.flood.cursor=D.cursor∨D.flood.cursor=D.cursor+1):=by
 unfold Wd.flood
 split
 ·split
  ·split
   ·exact⟨rfl,.inl rfl⟩
   ·exact⟨(vF _ _).1,.inr rfl⟩
  ·unfold Wd.jv
   split
   ·exact⟨rfl,.inl rfl⟩
   ·split
    ·exact⟨(oo _).1,.inl (oo _).2.2⟩
    ·exact⟨rfl,.inl rfl⟩
 ·exact⟨rfl,.inl rfl⟩
theorem FQ.flood(Q:FQ N hold m D)(H:∀b:Nat,0<hold b→m ((b:Int)+1)):FQ N hold m D.flood:=by
 have P:=Pt.flood Q.san
 have hc:=(yC (D:=D)).2
 have:=Q.cu
 refine⟨Q.san.flood,Q.fm.flood Q.san Q.nam Q.cu,Q.nam.flood Q.san,Q.out.pt Q.san P,tq.1.trans Q.ph,yC.1.trans Q.n,by omega,fun t ht=> ?_,Q.clo.pt P,BK.flood (Q.fm.RN Q.ph) Q.san Q.nam Q.clo H Q.bk⟩
 obtain⟨t',h1,h2⟩:=P.symm.live Q.san.flood ht
 rw[←h2]
 exact Q.hlt t' h1
theorem FQ.runN(Q:FQ N hold m D)(H:∀b:Nat,0<hold b→m ((b:Int)+1)):∀n,FQ N hold m (floodN n D)∧Pt D (floodN n D)
 |0=>⟨Q,Pt.refl D⟩
 |n+1=>by
  obtain⟨h1,h2⟩:=Q.runN H n
  exact⟨h1.flood H,h2.trans (Pt.flood h1.san)⟩
theorem Du{φ:Th→Nat}:∀l:List Th,sumL (fun t=>φ t+2) l=sumL φ l+2*(aF l).length
 |[]=>rfl
 |u::l=>by
  rw[aO,aO,av,Du l]
  cases u.ended<;>simp<;>omega
theorem Km{l:List Th}(hn:(l.map Th.h).Nodup)(h:∀t,t∈l→t.h<N):l.length≤N:=by
 have:=CF N (l.map (fun t=>(t.h:Int)+1)) (by
  unfold List.Nodup at hn ⊢
  rw[List.pairwise_map] at hn ⊢
  exact hn.imp (fun h e=>h (by omega))) (fun x hx=>by
  obtain⟨t,ht,rfl⟩:=List.mem_map.1 hx
  have:=h t ht
  omega)
 simpa using this
theorem TQ.QK(T:TQ N hold D):yY (D.begin 2)≤18*N:=by
 obtain⟨s,h,f,I⟩:=T.ci
 have h1:sumL (whiteT (D.begin 2).parity) D.ts≤sumL (fun t=>t.pt.length+2) D.ts:=qX (fun t ht=>by unfold whiteT;split<;>omega)
 rw[Du] at h1
 have h2:(aF D.ts).length≤N:=Km (l:=D.live) I.san.nd I.hlt
 have h3:=I.bd
 have h4:yY (D.begin 2)=((D.n:Int)-0).toNat+(sumL (whiteT (D.begin 2).parity) D.ts+gP (D.begin 2) D.ring)+0:=rfl
 have h5:gP (D.begin 2) []=0:=rfl
 rw[h4,T.ring,h5,I.n]
 omega
theorem TQ.fin(T:TQ N hold D){m n:Nat}(hm:∀j,j<m→(tallyN j D).bf=true)(hmb:(tallyN m D).bf=false)(hnb:(floodN n ((tallyN m D).begin 2)).aZ=false)(hpot:n+yY (floodN n ((tallyN m D).begin 2))≤yY ((tallyN m D).begin 2)){mk:Int→Prop}(M:Qx D fl mk)(hf1:∀x,x∈fl→∃b:Nat,x=(b:Int)+1∧0<hold b)(hf2:∀b:Nat,0<hold b→(b:Int)+1∈fl):
  n≤18*N∧(floodN n ((tallyN m D).begin 2)).ring=[]∧Pt D (floodN n ((tallyN m D).begin 2))∧∀x t,(floodN n ((tallyN m D).begin 2)).find x=some t→t.mr.dead=false→(t.mr.color=(floodN n ((tallyN m D).begin 2)).parity↔mk x):=by
 obtain⟨T2,P2⟩:=T.runN m hm
 have hp18:=T2.QK
 generalize hD2:tallyN m D=D2 at*
 obtain⟨s,h,f,I⟩:=T2.ci
 have H:∀b:Nat,0<hold b→mk ((b:Int)+1):=fun b hb=>M.1 _ (hf2 b hb)
 have Q0:FQ N hold mk (D2.begin 2):=⟨I.san.same_but rfl rfl rfl rfl (fun b hb=>.inl hb),T2.fm.OG I.ph I.n hmb I.hlt,T2.nam.ts rfl,T2.out,rfl,I.n,Int.le_refl _,I.hlt,M.2.1.pt (P2.trans (Pt.ts rfl)),⟨fun x t hf hc=>by
  have h1:=T2.col t (ig hf)
  have h2:t.mr.color=D2.parity:=hc
  have h3:=T2.par
  omega,fun b hb=>by
  have hb:b∈D2.ring:=hb
  rw[T2.ring] at hb
  exact absurd hb (List.not_mem_nil),fun h=>absurd rfl h⟩⟩
 obtain⟨Q,P3⟩:=Q0.runN H n
 have P:Pt D (floodN n (D2.begin 2)):=(P2.trans (Pt.ts (D':=D2.begin 2) rfl)).trans P3
 generalize floodN n (D2.begin 2)=De at*
 have hend:=hnb
 unfold Wd.aZ at hend
 rw[decide_eq_true Q.ph] at hend
 simp at hend
 refine⟨by omega,hend.1.2,P,fun x t hf hd=>⟨fun hc=>Q.bk.col x t hf hc,fun hx=> ?_⟩⟩
 obtain⟨t2,h1,h2,h3⟩:=OE Q.san Q.nam Q.fm Q.out Q.ph Q.n hnb Q.hlt mk (M.pt P) hf1 x hx
 rw[hf] at h1
 cases h1
 exact h3
end
theorem Qe{D:Wd}(h:D.phase=0)(r:Int):D.touch r=D:=by
 have:D.toucht r=false:=by
  unfold Wd.toucht
  rw[h]
  split<;>simp
 unfold Wd.touch
 rw[this]
 rfl
theorem QG{D:Wd}(h:D.phase=0)(r:Int):D.more r=D.up r:=by
 unfold Wd.more
 exact Qe (D:=D.up r) h r
def Jv(D:Wd):Prop:=bu D∧(∀t,t∈D.ts→t.mr.color=0∧t.mr.shadow=0)∧D.phase=0∧D.ring=[]
structure FB (N:Nat) (L:List Int) (hold:Nat→Nat) (k:Nat) (D:Wd):Prop where
 fin:oV L D
 nam:Nam hold D
 out:Out hold D
 col:∀t,t∈D.ts→t.mr.color=0
 ph:D.phase=0
 ring:D.ring=[]
 pi:PInv (cfR N) k D
section
variable {D D':Wd} {t u:Th} {r x y:Int} {hold:Nat→Nat} {L:List Int} {N k:Nat}
theorem Jv.new(n w:Nat):Jv (Wd.new n w):=⟨bu.new _ _,fun t ht=>by simp[Wd.new] at ht,rfl,rfl⟩
theorem Jv.tie(h:Jv D)(r:Int)(i:Nat)(x:Int):Jv ((D.setP r i x).up x):=
 ⟨h.1.tie r i x,iI (P:=fun t=>t.mr.color=0∧t.mr.shadow=0) (g:=fun t=>{t with mr:={t.mr with refs:=t.mr.refs+1}}) (fun t ht=>ht) x (iI (P:=fun t=>t.mr.color=0∧t.mr.shadow=0) (g:=fun t=>{t with pt:=t.pt.set i x}) (fun t ht=>ht) r h.2.1),h.2.2⟩
theorem Jv.grow(h:Jv D)(x y:Int):Jv (D.grow x y):=by
 refine⟨h.1.grow x y,?_,?_⟩
 ·unfold Wd.grow
  split
  ·rename_i hE
   refine iI (P:=fun t=>t.mr.color=0∧t.mr.shadow=0) (g:=fun t=>{t with mr:={t.mr with color:=(D.mkD x y).parity,count:=(D.mkD x y).parity,shade:=(D.mkD x y).parity,shadow:=0}}) (fun t _=>⟨(h.1.mkD x y).1,rfl⟩) (D.mkR x y) ?_
   unfold Wd.mkD
   rw[if_pos hE]
   intro t ht
   rcases List.mem_append.1 (show t∈D.ts++[_] from ht) with ht|ht
   ·exact h.2.1 t ht
   ·obtain rfl:=List.mem_singleton.1 ht
    exact⟨rfl,rfl⟩
  ·exact h.2.1
 ·unfold Wd.grow
  split
  ·rename_i hE
   have e:(D.mkD x y).phase=D.phase∧(D.mkD x y).ring=D.ring:=by
    unfold Wd.mkD
    rw[if_pos hE]
    exact⟨rfl,rfl⟩
   exact⟨e.1.trans h.2.2.1,e.2.trans h.2.2.2⟩
  ·exact h.2.2
theorem FB.of{k0:Nat}(G:nE N D k0)(h:Jv D)(hk:k0≤k)(hl:D.dz.length≤k):FB N D.dz (fun _=>0) k D:=
 ⟨G.Rt h.1,G.nam,fun _ _=>rfl,fun t ht=>(h.2.1 t ht).1,h.2.2.1,h.2.2.2,G.san,fun q t hf=>by
  obtain⟨htl,e⟩:=find_live hf
  have h1:=G.nam.cnt t htl
  have h2:=G.bd ((t.h:Int)+1) (by omega)
  have h3:=(h.2.1 t (dN.1 htl).1).2
  rw[h1,h3]
  omega,by unfold Wd.dz at hl;simpa using hl,fun b hb=>by
  obtain⟨t,ht,rfl⟩:=List.mem_map.1 hb
  exact G.lt t ht⟩
theorem FB.held(F:FB N L hold k D)(hf:D.find r=some t)(hd:t.mr.dead=false):∃hold',FB N L hold' (k+1) (D.more r):=by
 obtain⟨htl,er⟩:=find_live hf
 have em:(D.more r).ts.map Th.h=D.ts.map Th.h:=ut r
 have hb:=F.pi.bd.more r
 rw[QG F.ph] at em hb ⊢
 have S:=F.fin.san.up r
 refine⟨fun h=>hold h+if(h:Int)+1=r then 1 else 0,⟨S,by rw[em];exact F.fin.nd,(oM em).trans F.fin.refs,F.fin.dy.mark r (f:=fun m=>{m with refs:=m.refs+1}) (fun m hm=>hm),fun s hs=> ?_⟩,F.nam.RD F.fin.san hf hd (fun h=>rfl),fun b hn=> ?_,iI (P:=fun t=>t.mr.color=0) (g:=fun t=>{t with mr:={t.mr with refs:=t.mr.refs+1}}) (fun t ht=>ht) r F.col,F.ph,F.ring,F.pi.to S hb em⟩
 ·rcases wT (g:=fun t=>{t with mr:={t.mr with refs:=t.mr.refs+1}}) hs with hs|⟨u,hu,rfl⟩
  ·exact F.fin.fl s hs
  ·exact F.fin.fl u (ig hu)
 ·have h1:∀t,t∈D.live→t.h≠b:=fun t ht e=>by
   obtain⟨s,k1,k2⟩:=live_of_heads (OA (D:=D) r) ht
   exact hn s k1 (k2.trans e)
  show hold b+(if(b:Int)+1=r then 1 else 0)=0
  rw[F.out b h1,if_neg (fun e=>h1 t htl (by omega))]
theorem FB.up(F:FB N L hold k D):FB N L hold (k+1) D:=⟨F.fin,F.nam,F.out,F.col,F.ph,F.ring,F.pi.up⟩
theorem FB.inter(F:FB N L hold k D)(r:Int):FB N L hold k (D.inter r):=by
 refine⟨F.fin.inter r,F.nam.inter F.fin.san r,fun b hb=>F.out b (fun t ht e=> ?_),?_,?_,?_,F.fin.san.inter r,F.pi.bd.inter r,by rw[lu];exact F.pi.hd⟩
 ·obtain⟨s,k1,k2⟩:=live_of_heads (vv (D:=D) r) ht
  exact hb s k1 (k2.trans e)
 ·exact(jm.inter (D:=D) ⟨F.fin.dy,F.col⟩ r).2
 ·unfold Wd.inter Wd.bury
  split
  ·split
   ·exact F.ph
   ·split
    ·exact F.ph
    ·exact F.ph
  ·exact F.ph
 ·unfold Wd.inter Wd.bury
  split
  ·split
   ·exact F.ring
   ·split
    ·exact F.ring
    ·show(D.ring.filter _)=[]
     rw[F.ring]
     rfl
  ·exact F.ring
end
structure PK (w:World) (p:Pl) (c:Cf) (D:Wd) (P:World→Prop):Prop where
 st:∀a,P a→RSt w p c D a
 lat:∀a b,Below a.heap.size a b→P a→P b
 Qs:∀a b,P a→RSt w p c D b→Touch (inG p) a b→P b
def uI{w:World}{p:Pl}{c:Cf}{D:Wd}{P:World→Prop}(K:PK w p c D P):TX.qg where
 r a b:=P a→P b
 refl _ h:=h
 trans h k x:=k (h x)
 below hb h:=K.lat _ _ hb h
theorem kL{w wr w':World}{p:Pl}{c:Cf}{D:Wd}{P:World→Prop}{f:FuncId}{args:List Value}{B:Nat}{v:Value}(K:PK w p c D P)(hd:Does c D f args B D v)(h:P wr)(hC:(uI K).r wr w'):
  Calls Tryz.prog f (List.toArray (.pointer (some ⟨p.a,0,none⟩)::args)) w' fun e w''=>e=.returned v∧(uI K).r w' w'':=
 ((K.st _ (hC h)).does hd).mono fun e w'' ⟨e1,e2,hT⟩=>⟨e1,fun h=>K.Qs _ _ h e2 hT⟩
def wZ(D:Wd)(x:Int):Prop:=∃t,D.find x=some t∧t.mr.dead=false∧((sumL (nmT x) D.ts:Nat):Int)<t.mr.refs
def uh(D:Wd)(L:List Int)(k:Nat)(i:Nat):Nat:=qa (atD (nmT (i:Int)) D) L k
structure OS (w:World) (p:Pl) (N:Nat) (D:Wd) (L:List Int) (ws w5:World) (q k:Nat) (v:Value) (l:List Int) (wr:World):Prop where
 st:RSt w p (cfR N) D wr
 tc:Touch (inG p) ws wr
 nm:Blk wr q (dA (fun i=>.int .i64 ((uh D L L.length i:Nat):Int)) (N+1)) 3
 nq:¬iK p q
 ng:∀i,w5.heap.size≤i→¬iK p i
 s5:ws.heap.size≤w5.heap.size
 td:wr.ownsRow w5.heap.size 3 1 v l.length (l.map (Value.int .i64))
 q5:q<w5.heap.size
 len:l.length≤k
 mem:∀x,x∈l→wZ D x
 all:∀j,j<k→wZ D (nth L j)→nth L j∈l
 sz:w5.heap.size≤wr.heap.size
section
variable {w wr ws w5 w' w3:World} {p:Pl} {N q k:Nat} {D:Wd} {L l:List Int} {v v':Value} {t:Th} {x:Int} {hold:Nat→Nat}
theorem OS.pk:PK w p (cfR N) D (OS w p N D L ws w5 q k v l):=
 ⟨fun a h=>h.st,fun a b hb h=>⟨h.st.later hb,h.tc.trans (Touch.of_below hb),h.nm.later hb,h.nq,h.ng,h.s5,dP h.td hb,h.q5,h.len,h.mem,h.all,Nat.le_trans h.sz hb.size⟩,fun a b h hs hT=>⟨hs,h.tc.trans hT,h.nm.touch hT (fun hx=>h.nq (Or.inr hx)),h.nq,h.ng,h.s5,bO h.td hT (fun g hg hx=>h.ng g (aI h.td g hg) (Or.inr hx)),h.q5,h.len,h.mem,h.all,Nat.le_trans h.sz hT.size⟩⟩
theorem OS.RX(_:OS w p N D L ws w5 q k v l wr):PK w p (cfR N) D (OS w p N D L ws w5 q k v l):=OS.pk
theorem OS.next(h:OS w p N D L ws w5 q k v l wr)(hn:¬wZ D (nth L k)):OS w p N D L ws w5 q (k+1) v l wr:=
 ⟨h.st,h.tc,h.nm,h.nq,h.ng,h.s5,h.td,h.q5,Nat.le_succ_of_le h.len,h.mem,fun j hj ho=>by
  by_cases e:j=k
  ·exact absurd (e▸ho) hn
  ·exact h.all j (by omega) ho,h.sz⟩
theorem OS.push(h:OS w p N D L ws w5 q k v l wr)(hx:x=nth L k)(hc:wZ D x)(hw:w.heap.size≤w5.heap.size)(ho:w3.ownsRow w5.heap.size 3 1 v' (l.length+1) (l.map (Value.int .i64)++[.int .i64 x]))(hg:(wr.alloc (.cells #[.int .i64 x] 3)).grownBy w3 v.ownBlock):OS w p N D L ws w5 q (k+1) v' (l++[x]) w3:=by
 have hq2:=aI h.td
 have hb:=below_new wr (.cells #[.int .i64 x] 3)
 have T0:Touch (fun b=>v.ownBlock=some b) wr w3:=(Touch.of_below hb).trans (fU hg)
 refine⟨h.st.touch T0 (fun i hi e=>h.ng i (hq2 i e) hi) (fun i e=>Nat.le_trans hw (hq2 i e)),?_,h.nm.touch T0 (fun e=>by have:=hq2 q e;have:=h.q5;omega),h.nq,h.ng,h.s5,by rw[List.length_append,List.map_append];exact ho,h.q5,by rw[List.length_append];have:=h.len;simp;omega,fun y hy=> ?_,fun j hj hc2=> ?_,Nat.le_trans h.sz T0.size⟩
 ·exact⟨T0.os.trans h.tc.os,T0.tape.trans h.tc.tape,T0.output.trans h.tc.output,Nat.le_trans h.tc.size T0.size,fun b hb hx=>(T0.block b (Nat.lt_of_lt_of_le hb h.tc.size) (fun e=>by have:=hq2 b e;have:=h.s5;omega)).trans (h.tc.block b hb hx)⟩
 ·rw[List.mem_append,List.mem_singleton] at hy
  rcases hy with hy|rfl
  ·exact h.mem y hy
  ·exact hc
 ·rw[List.mem_append,List.mem_singleton]
  by_cases e:j=k
  ·exact .inr (e▸hx.symm)
  ·exact .inl (h.all j (by omega) hc2)
theorem Po(F:oV L D){k:Nat}(hk:k≤L.length)(i:Nat):uh D L k i≤sumL (nmT (i:Int)) D.ts:=by
 have h1:=NM (atD (nmT (i:Int)) D) L hk
 have h2:=wB F.nd (nmT (i:Int))
 rw[F.refs] at h2
 unfold uh
 omega
theorem Nh(F:oV L D)(i:Nat):uh D L L.length i=sumL (nmT (i:Int)) D.ts:=by
 have h2:=wB F.nd (nmT (i:Int))
 rw[F.refs] at h2
 exact h2
theorem KL(hk:k<L.length)(hf:D.find (nth L k)=some t)(i:Nat):uh D L (k+1) i=uh D L k i+bF (i:Int) t.pt:=by
 unfold uh
 rw[ze _ hk]
 unfold atD
 rw[hf]
 rfl
theorem pq(q:Int):∀(l:List Int) (f:Nat),bF q (l.take f)≤bF q l
 |[],f=>by simp
 |a::l,0=>by simp[bF]
 |a::l,f+1=>by
  have:=pq q l f
  simp only[List.take_succ_cons,bF]
  omega
theorem Cr(n:Nat)(hn:n≤2000)(w:World):(Instr.makeSlice 45 (.int .i64 (n:Int)) (.int .i64 (n:Int))).run Tryz.prog w=.ok (.slice (some ⟨w.heap.size,0,none⟩) n n) (w.alloc (.cells (dA (fun _=>.int .i64 0) n) 3)):=by
 obtain⟨i0,hi,hz0,hz1,hz2⟩:=info_parts kF
 have:=run_make w 45 3 i0 (.int .i64 0) Tryz.underlying45 hi hz0 .i64 .i64 (n:Int) (n:Int) (by omega) (Int.le_refl _) (by rw[hz2];omega) (by omega)
 rw[this,hz1,←KE _ rfl]
 simp
end
def RI(w:World)(p:Pl)(c:Cf)(D:Wd)(q:Nat)(m:Int→Bool)(w1:World)(wr:World):Prop:=RSt w p c D wr∧Blk wr q (dA (fun i=>.bool (m (i:Int))) (c.N+1)) 4∧¬iK p q∧Touch (inG p) w1 wr
theorem RI.pk{w w1:World}{p:Pl}{c:Cf}{D:Wd}{q:Nat}{m:Int→Bool}:PK w p c D (RI w p c D q m w1):=
 ⟨fun a h=>h.1,fun a b hb h=>⟨h.1.later hb,h.2.1.later hb,h.2.2.1,h.2.2.2.trans (Touch.of_below hb)⟩,fun a b h hs hT=>⟨hs,h.2.1.touch hT (fun hx=>h.2.2.1 (Or.inr hx)),h.2.2.1,h.2.2.2.trans hT⟩⟩
def QC(t:Th)(w:World)(e:Ending)(w':World):Prop:=
 ∃a1 c1 a2 c2,e=.returned (.tuple #[.agg #[.slice a1 t.pt.length c1,.slice a2 t.dt.length c2],.bool true])∧Row w' .i64 a1 t.pt∧(t.mr.dead=false→Row w' .u32 a2 t.dt)∧(∀b off,a1=some ⟨b,off,none⟩→w.heap.size≤b)∧(∀b off,a2=some ⟨b,off,none⟩→w.heap.size≤b)∧Below w.heap.size w w'
def HDb(D:Wd)(L:List Int)(k s:Nat)(H:Nat→Value)(wr:World):Prop:=∀j,j<k→∀t,D.find (nth L j)=some t→∃a1 c1 a2 c2,H (2*(nth L j).toNat)=.slice a1 t.pt.length c1∧H (2*(nth L j).toNat+1)=.slice a2 t.dt.length c2∧Row wr .i64 a1 t.pt∧(t.mr.dead=false→Row wr .u32 a2 t.dt)∧(∀b off,a1=some ⟨b,off,none⟩→s≤b)∧∀b off,a2=some ⟨b,off,none⟩→s≤b
section
variable {w w' wr ws:World} {p:Pl} {c:Cf} {N k s:Nat} {D:Wd} {L:List Int} {t:Th} {x:Int} {H H':Nat→Value} {zs:List Int} {X:Nat→Prop}
theorem JM(S:San D)(hz:Wz c zs)(R:au c zs D)(htl:t∈D.live)(hd:t.mr.dead=false):eY c zs t.ob=t.dt:=by
 have hW:=hz.may.w
 have hp1:eY c zs t.ob=(List.range t.dt.length).map (fun i=>nth t.dt i):=by
  show(List.range t.dt.length).map (fun i=>dS c zs t.ob (t.pt.length+i))=_
  refine List.map_congr_left (fun i hi=> ?_)
  have h2:i<t.dt.length:=List.mem_range.1 hi
  have hfl:t.sZ (t.pt.length+i)=nth t.dt i:=by unfold Th.sZ;rw[if_neg (by omega),show t.pt.length+i-t.pt.length=i by omega]
  have hk:=S.ok t htl
  have ef:t.ob.f=t.pt.length+t.dt.length:=rfl
  obtain⟨a,ha⟩:∃a,aM c t.ob (t.pt.length+i)=some a:=by
   by_cases hs:t.ob.f≤c.W-8
   ·exact⟨_,by unfold aM;rw[iq hs];rfl⟩
   ·obtain⟨_,hg⟩:=hk.qp.big (by rw[R.w];omega)
    rw[R.w] at hg
    have hq:(t.pt.length+i)/(c.W-1)<t.lv.length:=by
     rw[Nat.div_lt_iff_lt_mul (by omega)]
     omega
    obtain⟨b,hb⟩:=hk.alive hd _ hq
    exact⟨_,by unfold aM;rw[iQ hs (Cj hb)];rfl⟩
  have hv:=R.sZ t htl (t.pt.length+i) a (by omega) ha
  unfold dS
  rw[ha]
  show nth zs a=_
  rw[hv,hfl]
 rw[hp1]
 refine List.ext_getElem (by simp) (fun i h1 h2=> ?_)
 rw[List.getElem_map,List.getElem_range]
 unfold nth
 rw[List.getD_eq_getElem?_getD]
 simp[h2]
theorem Gg(S:San D)(hf:D.find x=some t)(h:RSt w p c D wr):Calls Tryz.prog 23 #[.pointer (some ⟨p.a,0,none⟩),.int .i64 x] wr (QC t wr):=by
 refine h.looks (f:=23) (args:=[.int .i64 x]) (Q:=QC t) (fun zs hz R=> ?_)
 obtain⟨htl,e⟩:=find_live hf
 have hl:=objFns.see_yes c zs D.clean D.obs t.ob hz R.heap (R.obMem htl)
 have e':((t.ob.h:Nat):Int)+1=x:=e
 rw[e'] at hl
 have hp:=Ns S hz R htl
 have hq:=fun hd=>JM S hz R htl hd
 intro p m w hG
 refine(hl p m w hG).mono ?_
 rintro e w' ⟨a1,c1,a2,c2,rfl,r1,r2,f1,f2,f12,hb,e1,e2⟩
 rw[hp] at r1
 exact⟨a1,c1,a2,c2,rfl,r1.row,fun hd=>hq hd▸r2.row,f1,f2,hb⟩
theorem oV.ne{j k:Nat}(F:oV L D)(hk:k<L.length)(hj:j<k):nth L j≠nth L k:=by
 have hr:=F.refs
 subst hr
 have hk2:k<D.ts.length:=by unfold Wd.dz at hk;simpa using hk
 have e:∀i,(hi:i<D.ts.length)→nth D.dz i=((D.ts.map Th.h)[i]'(by simpa using hi):Int)+1:=fun i hi=>by
  unfold nth Wd.dz
  rw[List.getD_eq_getElem?_getD]
  simp[hi]
 rw[e j (by omega),e k hk2]
 intro h
 have h2:(D.ts.map Th.h)[j]'(by simp;omega)=(D.ts.map Th.h)[k]'(by simpa using hk2):=by omega
 exact List.pairwise_iff_getElem.1 F.nd j k (by simp;omega) (by simpa using hk2) hj h2
theorem HDb.zero(D:Wd)(L:List Int)(s:Nat)(H:Nat→Value)(wr:World):HDb D L 0 s H wr:=fun j hj=>absurd hj (Nat.not_lt_zero _)
theorem HDb.touch(h:HDb D L k s H wr)(hT:Touch X wr w')(hX:∀b,X b→b<s):HDb D L k s H w':=fun j hj t hf=>by
 obtain⟨a1,c1,a2,c2,e1,e2,r1,r2,f1,f2⟩:=h j hj t hf
 exact⟨a1,c1,a2,c2,e1,e2,r1.touch hT (fun _ b off e hx=>by have:=f1 b off e;have:=hX b hx;omega),fun hd=>(r2 hd).touch hT (fun _ b off e hx=>by have:=f2 b off e;have:=hX b hx;omega),f1,f2⟩
theorem HDb.next(h:HDb D L k s H wr){a1 a2:Option Addr}{c1 c2 J:Nat}{t:Th}(hf:D.find (J:Int)=some t)(hJ:nth L k=(J:Int))(hnd:∀j,j<k→nth L j≠nth L k)(hpos:∀j,j<k→0≤nth L j)
  (hH:H'=fun i=>if i=J*2+1 then Value.slice a2 t.dt.length c2 else if i=J*2 then Value.slice a1 t.pt.length c1 else H i) (r1:Row wr .i64 a1 t.pt) (r2:t.mr.dead=false→Row wr .u32 a2 t.dt) (f1:∀b off,a1=some ⟨b,off,none⟩→s≤b) (f2:∀b off,a2=some ⟨b,off,none⟩→s≤b):HDb D L (k+1) s H' wr:=fun j hj t' hf'=>by
 by_cases e:j=k
 ·subst e
  rw[hJ] at hf' ⊢
  rw[hf] at hf'
  cases hf'
  refine⟨a1,c1,a2,c2,?_,?_,r1,r2,f1,f2⟩
  ·rw[hH]
   show(if 2*((J:Int)).toNat=J*2+1 then _ else _)=_
   rw[if_neg (by omega),if_pos (by omega)]
  ·rw[hH]
   show(if 2*((J:Int)).toNat+1=J*2+1 then _ else _)=_
   rw[if_pos (by omega)]
 ·have hlt:j<k:=by omega
  obtain⟨b1,d1,b2,d2,e1,e2,q1,q2,g1,g2⟩:=h j hlt t' hf'
  have hne:=hnd j hlt
  have hp:=hpos j hlt
  rw[hJ] at hne
  refine⟨b1,d1,b2,d2,?_,?_,q1,q2,g1,g2⟩
  ·rw[hH]
   show(if 2*(nth L j).toNat=J*2+1 then _ else if 2*(nth L j).toNat=J*2 then _ else _)=_
   rw[if_neg (by omega),if_neg (by omega)]
   exact e1
  ·rw[hH]
   show(if 2*(nth L j).toNat+1=J*2+1 then _ else if 2*(nth L j).toNat+1=J*2 then _ else _)=_
   rw[if_neg (by omega),if_neg (by omega)]
   exact e2
theorem Io(n:Nat):madeCells (Value.cells (.agg #[.slice none 0 0,.slice none 0 0])) (n*2)=dA (fun _=>.slice none 0 0) (2*n):=by
 unfold madeCells dA
 have e:∀x:Nat,(Value.cells (.agg #[.slice none 0 0,.slice none 0 0]))[x%(Value.cells (.agg #[.slice none 0 0,.slice none 0 0])).size]! =.slice none 0 0:=by
  intro x
  have:x%2=0∨x%2=1:=by omega
  show(#[Value.slice none 0 0,.slice none 0 0]:Array Value)[x%2]! =_
  rcases this with h|h<;>rw[h]<;>rfl
 simp only[e]
 rw[Nat.mul_comm 2 n]
 apply Array.toList_inj.1
 simp
theorem Ip(n:Nat)(hn:n≤2000)(w:World):(Instr.makeSlice 49 (.int .i64 (n:Int)) (.int .i64 (n:Int))).run Tryz.prog w=.ok (.slice (some ⟨w.heap.size,0,none⟩) n n) (w.alloc (.cells (dA (fun _=>.slice none 0 0) (2*n)) 57)):=by
 obtain⟨i0,hi,hz0,hz1,hz2⟩:=info_parts MO
 have:=run_make w 49 57 i0 (.agg #[.slice none 0 0,.slice none 0 0]) Tryz.underlying49 hi hz0 .i64 .i64 (n:Int) (n:Int) (by omega) (Int.le_refl _) (by rw[hz2];omega) (by omega)
 rw[this,hz1]
 have e:((n:Int)).toNat=n:=by omega
 rw[e,Io n]
end
def OC(w:World)(p:Pl)(c:Cf)(D:Wd)(L:List Int)(ws:World)(e:Ending)(w':World):Prop:=
 ∃a cap fl hq H,e=.returned (.tuple #[.slice a (List.length fl) cap,.slice (some ⟨hq,0,none⟩) (c.N+1) (c.N+1)])∧Row w' .i64 a fl∧fl.length≤L.length∧(∀x,x∈fl→wZ D x)∧(∀x,x∈L→wZ D x→x∈fl)∧RSt w p c D w'∧Touch (inG p) ws w'∧Blk w' hq (dA H (2*(c.N+1))) 57∧HDb D L L.length ws.heap.size H w'∧ws.heap.size≤hq
theorem HDb.mono{D:Wd}{L:List Int}{k s s':Nat}{H:Nat→Value}{wr:World}(h:HDb D L k s H wr)(hs:s'≤s):HDb D L k s' H wr:=fun j hj t hf=>by
 obtain⟨a1,c1,a2,c2,e1,e2,r1,r2,f1,f2⟩:=h j hj t hf
 exact⟨a1,c1,a2,c2,e1,e2,r1,r2,fun b off e=>Nat.le_trans hs (f1 b off e),fun b off e=>Nat.le_trans hs (f2 b off e)⟩
set_option maxHeartbeats 4000000 in
theorem xA{w ws:World}{p:Pl}{N:Nat}{D:Wd}{L:List Int}{hold:Nat→Nat}(h:RSt w p (cfR N) D ws)(F:oV L D)(Nm:Nam hold D)(hN:N≤1000)(a9:Option Addr)(c9:Nat)(hr:Row ws .i64 a9 L)(hX:gH (inG p) a9 L)(hL:L.length≤30):
  Calls Tryz.prog 18 #[.pointer (some ⟨p.a,0,none⟩),.slice a9 L.length c9] ws (OC w p (cfR N) D L ws):=by
 obtain⟨i0,hinf,hz0,hz1,hz2⟩:=info_parts kF
 have hfc:=cz (N:Int) 16 1 1
 have HS0:=hid h
 have HR:=hid hr
 have HX:=hid hX
 have HF:=hid F
 have HNm:=hid Nm
 have HNB:=hid (fun y=>h.QH F.san y)
 have hNN:=hN
 clear h hr hX F Nm
 go_enter Tryz.func18,Tryz.ntmps18
 go_wp2_with fail
 refine HS0.out.conf.mono ?_
 rintro e w1 ⟨rfl,hb⟩
 have HB1:=hid hb
 clear hb
 have hmk:=Cr (N+1) (by omega) w1
 rw[show((N+1:Nat):Int)=(N:Int)+1 by omega] at hmk
 have hw1:IntKind.i64.wrap ((N:Int)+1)=(N:Int)+1:=IntWalk.i64_in _ (by omega)
 go_wp2_with fail
 have HR0:Hid (Below ws.heap.size ws (w1.alloc (.cells (dA (fun _=>.int .i64 0) (N+1)) 3))∧Blk (w1.alloc (.cells (dA (fun _=>.int .i64 0) (N+1)) 3)) w1.heap.size (dA (fun i=>.int .i64 ((uh D L 0 i:Nat):Int)) (N+1)) 3):=hid ⟨below_step HB1.out (below_new _ _),by
  have e:(fun i:Nat=>Value.int .i64 ((uh D L 0 i:Nat):Int))=fun _=>.int .i64 0:=funext (fun i=>by unfold uh;rw[IQ];rfl)
  rw[e]
  exact Blk.new _ _ _⟩
 have HNq:Hid (¬iK p w1.heap.size∧ws.heap.size≤w1.heap.size):=hid ⟨HS0.out.xz HB1.out.size,HB1.out.size⟩
 generalize w1.alloc (.cells (dA (fun _=>.int .i64 0) (N+1)) 3)=w2 at*
 generalize w1.heap.size=q at*
 clear hmk HB1
 refine(HS0.out.later HR0.out.1).conf.mono ?_
 rintro e w3 ⟨rfl,hb⟩
 have HB3:=hid (below_step HR0.out.1 hb)
 have HQ3:=hid (HR0.out.2.later hb)
 clear hb HR0
 have hmk:=Ip (N+1) (by omega) w3
 rw[show((N+1:Nat):Int)=(N:Int)+1 by omega] at hmk
 go_wp2_with fail
 have HR0:Hid (Below ws.heap.size ws (w3.alloc (.cells (dA (fun _=>.slice none 0 0) (2*(N+1))) 57))∧Blk (w3.alloc (.cells (dA (fun _=>.slice none 0 0) (2*(N+1))) 57)) q (dA (fun i=>.int .i64 ((uh D L 0 i:Nat):Int)) (N+1)) 3∧Blk (w3.alloc (.cells (dA (fun _=>.slice none 0 0) (2*(N+1))) 57)) w3.heap.size (dA (fun _=>.slice none 0 0) (2*(N+1))) 57):=hid ⟨below_step HB3.out (below_new _ _),HQ3.out.later (below_new _ _),Blk.new _ _ _⟩
 have HNh:Hid (¬iK p w3.heap.size∧ws.heap.size≤w3.heap.size∧q<w3.heap.size):=hid ⟨HS0.out.xz HB3.out.size,HB3.out.size,HQ3.out.lt⟩
 generalize w3.alloc (.cells (dA (fun _=>.slice none 0 0) (2*(N+1))) 57)=w4 at*
 generalize w3.heap.size=hq at*
 clear hmk HB3 HQ3 hfc hw1
 obtain⟨s,hs⟩:∃s,s=w4.heap.size:=⟨_,rfl⟩
 have HSz:Hid (hq<s∧ws.heap.size≤s):=hid (by
  rw[hs]
  exact⟨HR0.out.2.2.lt,HR0.out.1.size⟩)
 go_loopw [29] (fun i wr=>∃(k:Nat) (H:Nat→Value),k≤L.length∧i=.int .i64 (k:Int)∧Below ws.heap.size ws wr∧Blk wr q (dA (fun i=>.int .i64 ((uh D L k i:Nat):Int)) (N+1)) 3∧Blk wr hq (dA H (2*(N+1))) 57∧HDb D L k s H wr∧s≤wr.heap.size) (fun i _=>L.length-(intOf i).toNat)
 case atStart=>exact⟨0,_,Nat.zero_le _,rfl,HR0.out.1,HR0.out.2.1,HR0.out.2.2,HDb.zero _ _ _ _ _,by rw[hs];exact Nat.le_refl _⟩
 case round=>
  obtain⟨k,H,hk,rfl,hb,hq1,hh,hH,hsz⟩:=hrel
  have HB:=hid hb
  have HQ:=hid hq1
  have HH:=hid hh
  have HHd:=hid hH
  have HSw:=hid hsz
  by_cases hlt:k<L.length
  ·obtain⟨b9,o9,rfl,hb9,hc9⟩:=(HR.out.below hb (Nat.le_refl _)) k hlt
   obtain⟨t,hf⟩:=HF.out.find hlt
   obtain⟨J,hJ,hJ1,hJN⟩:=RSt.La HS0.out hf
   have hJN:J≤N:=hJN
   have HHn:Hid (∀j,j<k→0≤nth L j):=hid (fun j hj=>by
    obtain⟨u,hu⟩:=HF.out.find (show j<L.length by omega)
    obtain⟨i,hi,_⟩:=RSt.La HS0.out hu
    omega)
   have HHu:Hid (∀j,j<k→nth L j≠nth L k):=hid (fun j hj=>HF.out.ne hlt hj)
   have HJe:=hid hJ
   rw[hJ] at hf hc9
   have HFd:=hid hf
   have HSu:=hid (fun i=>KL (D:=D) hlt (HJe.out▸hf) i)
   have HLe:=hid (fun i=>Po HF.out (show k+1≤L.length by omega) i)
   have HSe:=hid (Gg HF.out.san hf (HS0.out.later hb))
   have hpl:=(HS0.out.sizes) t (find_live hf).1
   have hjl:J<N+1:=by omega
   have hji:(J:Int)<(N:Int)+1:=by omega
   have hj0:(0:Int)≤(J:Int):=by omega
   clear hb hq1 hh hH hsz hf hJ
   go_wp2_with fail
   refine HSe.out.mono ?_
   rintro e w5 ⟨a1,c1,a2,c2,rfl,r1,r2,f1,f2,hb5⟩
   have hbx:=Blk.new w5 #[.slice a1 t.pt.length c1,.slice a2 t.dt.length c2] 57
   have q0:=hbx.cell 0 rfl
   have q1:=hbx.cell 1 rfl
   have hb6:=below_step hb5 (below_new w5 (.cells #[.slice a1 t.pt.length c1,.slice a2 t.dt.length c2] 57))
   have hh6:=HH.out.later hb6
   have g0:=hh6.arr (show J*2<2*(N+1) by omega)
   have g1:=hh6.arr (show J*2+1<2*(N+1) by omega)
   have e0:=hh6.free (J*2)
   have e1:=hh6.free (J*2+1)
   have hlt6:=hh6.lt
   have hz1:w5.heap.size<(w5.alloc (.cells #[.slice a1 t.pt.length c1,.slice a2 t.dt.length c2] 57)).heap.size:=by simp
   have hne6:hq≠w5.heap.size:=by
    have:=HH.out.lt
    have:=hb5.size
    omega
   have T7:Touch (fun b=>b=hq) (w5.alloc (.cells #[.slice a1 t.pt.length c1,.slice a2 t.dt.length c2] 57)) (((w5.alloc (.cells #[.slice a1 t.pt.length c1,.slice a2 t.dt.length c2] 57)).setCell ⟨hq,J*2,none⟩ (.slice a1 t.pt.length c1)).setCell ⟨hq,J*2+1,none⟩ (.slice a2 t.dt.length c2)):=((Touch.refl (fun b=>b=hq) _).setCell (p:=⟨hq,J*2,none⟩) (fun _=>rfl) _).setCell (p:=⟨hq,J*2+1,none⟩) (fun _=>rfl) _
   have hqs:=HQ.out.lt
   have hnq:=HNh.out.2.2
   have hsw:=HSw.out
   have hhs:=HSz.out.1
   have hs5:=hb5.size
   have r1':=r1.later (below_new w5 (.cells #[.slice a1 t.pt.length c1,.slice a2 t.dt.length c2] 57))
   have r2':=fun hd=>(r2 hd).later (below_new w5 (.cells #[.slice a1 t.pt.length c1,.slice a2 t.dt.length c2] 57))
   have HF1:Hid (∀b off,a1=some ⟨b,off,none⟩→s≤b):=hid (fun b off e=>by have:=f1 b off e;omega)
   have HRp7:Hid (Row (((w5.alloc (.cells #[.slice a1 t.pt.length c1,.slice a2 t.dt.length c2] 57)).setCell ⟨hq,J*2,none⟩ (.slice a1 t.pt.length c1)).setCell ⟨hq,J*2+1,none⟩ (.slice a2 t.dt.length c2)) .i64 a1 t.pt):=hid (r1'.touch T7 (fun _ b off e hx=>by have:=f1 b off e;omega))
   have HB7:Hid (Below ws.heap.size ws (((w5.alloc (.cells #[.slice a1 t.pt.length c1,.slice a2 t.dt.length c2] 57)).setCell ⟨hq,J*2,none⟩ (.slice a1 t.pt.length c1)).setCell ⟨hq,J*2+1,none⟩ (.slice a2 t.dt.length c2))):=hid (((HB.out.trans ((hb6.mono (by have:=HB.out.size;omega):Below ws.heap.size wr _))).setCell (p:=⟨hq,J*2,none⟩) HNh.out.2.1 _).setCell (p:=⟨hq,J*2+1,none⟩) HNh.out.2.1 _)
   have HQ7:Hid (Blk (((w5.alloc (.cells #[.slice a1 t.pt.length c1,.slice a2 t.dt.length c2] 57)).setCell ⟨hq,J*2,none⟩ (.slice a1 t.pt.length c1)).setCell ⟨hq,J*2+1,none⟩ (.slice a2 t.dt.length c2)) q (dA (fun i=>.int .i64 ((uh D L k i+bF (i:Int) (t.pt.take 0):Nat):Int)) (N+1)) 3):=hid ((HQ.out.later hb6).touch T7 (by omega))
   have HH7:Hid (Blk (((w5.alloc (.cells #[.slice a1 t.pt.length c1,.slice a2 t.dt.length c2] 57)).setCell ⟨hq,J*2,none⟩ (.slice a1 t.pt.length c1)).setCell ⟨hq,J*2+1,none⟩ (.slice a2 t.dt.length c2)) hq (dA (fun i=>if i=J*2+1 then Value.slice a2 t.dt.length c2 else if i=J*2 then Value.slice a1 t.pt.length c1 else H i) (2*(N+1))) 57):=hid (by
    have h1:=(hh6.set (J*2) (.slice a1 t.pt.length c1)).set (J*2+1) (.slice a2 t.dt.length c2)
    rw[kX,kX] at h1
    exact h1)
   have HD7:Hid (HDb D L (k+1) s (fun i=>if i=J*2+1 then Value.slice a2 t.dt.length c2 else if i=J*2 then Value.slice a1 t.pt.length c1 else H i) (((w5.alloc (.cells #[.slice a1 t.pt.length c1,.slice a2 t.dt.length c2] 57)).setCell ⟨hq,J*2,none⟩ (.slice a1 t.pt.length c1)).setCell ⟨hq,J*2+1,none⟩ (.slice a2 t.dt.length c2))):=hid (((HHd.out.touch (Touch.of_below hb6) (X:=fun _=>False) (fun _ h=>h.elim)).touch T7 (fun b hx=>by omega)).next HFd.out HJe.out HHu.out HHn.out rfl HRp7.out (fun hd=>(r2' hd).touch T7 (fun _ b off e hx=>by have:=f2 b off e;omega)) HF1.out (fun b off e=>by have:=f2 b off e;omega))
   have HS7:Hid (s≤(((w5.alloc (.cells #[.slice a1 t.pt.length c1,.slice a2 t.dt.length c2] 57)).setCell ⟨hq,J*2,none⟩ (.slice a1 t.pt.length c1)).setCell ⟨hq,J*2+1,none⟩ (.slice a2 t.dt.length c2)).heap.size):=hid (by have:=T7.size;omega)
   clear T7 r1 r2 f1 f2 hb5 hb6 hh6 r1' r2' hqs hnq hsw hhs hbx
   go_wp2_with fail
   generalize hw7:(((w5.alloc (.cells #[.slice a1 t.pt.length c1,.slice a2 t.dt.length c2] 57)).setCell ⟨hq,J*2,none⟩ (.slice a1 t.pt.length c1)).setCell ⟨hq,J*2+1,none⟩ (.slice a2 t.dt.length c2))=w7 at*
   clear hw7 q0 q1 g0 g1 e0 e1
   generalize (fun i=>if i=J*2+1 then Value.slice a2 t.dt.length c2 else if i=J*2 then Value.slice a1 t.pt.length c1 else H i)=H' at*
   go_loopw [48] (fun i wr=>∃j:Nat,j≤t.pt.length∧i=.int .i64 (j:Int)∧Touch (fun b=>b=q) w7 wr∧Blk wr q (dA (fun i=>.int .i64 ((uh D L k i+bF (i:Int) (t.pt.take j):Nat):Int)) (N+1)) 3) (fun i _=>t.pt.length-(intOf i).toNat)
   case atStart=>exact⟨0,Nat.zero_le _,rfl,Touch.refl _ _,HQ7.out⟩
   case round=>
    obtain⟨j,hj,rfl,hT,hq⟩:=hrel
    have HT6:=hid hT
    have hrw:=HRp7.out.touch hT (fun _ b off e hx=>by have:=HF1.out b off e;have:=HNh.out.2.2;have:=HSz.out.1;omega)
    by_cases hlt2:j<t.pt.length
    ·obtain⟨bp,op,rfl,hbp,hcp⟩:=hrw j hlt2
     obtain⟨y,hy,hyN⟩:∃y:Nat,nth t.pt j=(y:Int)∧y<N+1:=by
      rcases HNm.out.good t (find_live HFd.out).1 j hlt2 with h0|⟨u,hu,hue⟩
      ·exact⟨0,h0,by omega⟩
      ·obtain⟨y,hy,hy1,hyN⟩:=RSt.La HS0.out (HF.out.san.findIt hu)
       exact⟨y,hue.symm.trans hy,by have:(cfR N).N=N:=rfl;omega⟩
     rw[hy] at hcp
     have ci:=hq.arr hyN
     have fi:=hq.free y
     have hqz:=hq.lt
     have hct:∀i:Nat,bF (i:Int) (t.pt.take (j+1))=bF (i:Int) (t.pt.take j)+if i=y then 1 else 0:=fun i=>by
      rw[oD (i:Int) t.pt hlt2,hy]
      congr 1
      by_cases e:i=y
      ·rw[if_pos e,if_pos (by omega)]
      ·rw[if_neg e,if_neg (by omega)]
     have hbd:uh D L k y+bF (y:Int) (t.pt.take j)+1≤100000*1000:=by
      have h1:=HSu.out y
      have h2:=HLe.out y
      have h3:=pq (y:Int) t.pt (j+1)
      have h4:=hct y
      rw[if_pos rfl] at h4
      have h5:=HNB.out (y:Int)
      have h6:100000*(cfR N).N≤100000*1000:=Nat.mul_le_mul_left _ hNN
      omega
     have HQ9:Hid (Blk (wr.setCell ⟨q,y,none⟩ (.int .i64 ((uh D L k y+bF (y:Int) (t.pt.take j)+1:Nat):Int))) q (dA (fun i=>.int .i64 ((uh D L k i+bF (i:Int) (t.pt.take (j+1)):Nat):Int)) (N+1)) 3):=hid (by
      have h1:=hq.set y (.int .i64 ((uh D L k y+bF (y:Int) (t.pt.take j)+1:Nat):Int))
      rw[kX] at h1
      rw[jO (g:=fun i=>if i=y then Value.int .i64 ((uh D L k y+bF (y:Int) (t.pt.take j)+1:Nat):Int) else .int .i64 ((uh D L k i+bF (i:Int) (t.pt.take j):Nat):Int)) (fun i _=>by
       rw[hct i]
       by_cases e:i=y
       ·rw[if_pos e,if_pos e,e]
        rfl
       ·rw[if_neg e,if_neg e]
        rfl)]
      exact h1)
     have HT7:=hid (hT.setCell (p:=⟨q,y,none⟩) (fun _=>rfl) (.int .i64 ((uh D L k y+bF (y:Int) (t.pt.take j)+1:Nat):Int)))
     clear hT hrw hq hy hct
     obtain⟨M,hM⟩:∃M:Nat,M=uh D L k y+bF (y:Int) (t.pt.take j):=⟨_,rfl⟩
     rw[←hM] at ci hbd HQ9 HT7
     rw[show((M+1:Nat):Int)=(M:Int)+1 by omega] at HQ9 HT7
     have hwM:IntKind.i64.wrap ((M:Int)+1)=(M:Int)+1:=IntWalk.i64_in _ (by omega)
     clear hM hbd
     go_wp2_with fail
     go_roundw
     case rel=>exact⟨j+1,by omega,by go_num,HT7.out,HQ9.out⟩
     case measure=>simp[intOf];omega
    ·obtain rfl:j=t.pt.length:=by omega
     have HQ9:Hid (Blk wr q (dA (fun i=>.int .i64 ((uh D L (k+1) i:Nat):Int)) (N+1)) 3):=hid (by
      rw[jO (g:=fun i=>.int .i64 ((uh D L k i+bF (i:Int) (t.pt.take t.pt.length):Nat):Int)) (fun i _=>by rw[HSu.out i,List.take_length])]
      exact hq)
     have HBe:=hid (HB7.out.trans (hT.below (B:=ws.heap.size) (fun b hx=>by have:=HNq.out.2;omega) HB7.out.size))
     have HHe:=hid (HH7.out.touch hT (by have:=HNh.out.2.2;omega))
     have HDe:=hid (HD7.out.touch hT (fun b hx=>by have:=HNh.out.2.2;have:=HSz.out.1;omega))
     have HSe:=hid (Nat.le_trans HS7.out hT.size)
     clear hT hrw hq
     go_wp2_with fail
     go_roundw
     case rel=>exact⟨k+1,H',by omega,by go_num,HBe.out,HQ9.out,HHe.out,HDe.out,HSe.out⟩
     case measure=>simp[intOf];omega
  ·obtain rfl:k=L.length:=by omega
   have HO0:Hid (OS w p N D L wr wr q 0 (.slice none 0 0) [] wr):=hid ⟨HS0.out.later hb,Touch.refl _ _,hq1,HNq.out.1,fun i hi=>HS0.out.xz (Nat.le_trans hb.size hi),Nat.le_refl _,World.ownsRow_nil _ _ _ _,hq1.lt,Nat.le_refl _,fun x hx=>absurd hx (List.not_mem_nil),fun j hj=>by omega,Nat.le_refl _⟩
   have HW5:Hid (w.heap.size≤wr.heap.size):=hid (Nat.le_trans HS0.out.below.size hb.size)
   have HR5:=hid (HR.out.below hb (Nat.le_refl _))
   clear hb hq1 hh hH hsz HQ
   generalize hw5:wr=w5 at*
   clear hw5
   go_wp2_with fail
   go_loopw [14,62] (fun tv i wr=>∃(k:Nat) (l:List Int),k≤L.length∧i=.int .i64 (k:Int)∧OS w p N D L w5 w5 q k tv l wr) (fun _ i _=>L.length-(intOf i).toNat)
   case atStart=>exact⟨0,[],Nat.zero_le _,rfl,HO0.out⟩
   case round=>
    obtain⟨k,l,hk,rfl,hO⟩:=hrel
    have HO:=hid hO
    have hll:=hO.len
    by_cases hlt:k<L.length
    ·obtain⟨b9,o9,rfl,hb9,hc9⟩:=(HR5.out.touch hO.tc HX.out) k hlt
     obtain⟨t,hf⟩:=HF.out.find hlt
     obtain⟨J,hJ,hJ1,hJN⟩:=RSt.La HS0.out hf
     have hJN:J≤N:=hJN
     have h64:In64 (nth L k):=by rw[hJ];unfold In64;omega
     have hdd:D.dead (nth L k)=t.mr.dead:=by unfold Wd.dead;rw[hf]
     have HI:=hid ((Gd (c:=cfR N) (D:=D) h64).as (vb (show(D.find (nth L k)).isSome=true by rw[hf];rfl)) rfl)
     have KP:=hid hO.RX
     have HJk:=hid hJ
     cases hd:t.mr.dead with
     |true=>
      have HD:=hid ((tintFns.dead (cfR N) D (nth L k) h64).as (vb (hdd.trans hd)) rfl)
      have HNo:Hid (¬wZ D (nth L k)):=hid (fun⟨t2,h1,h2,_⟩=>by
       rw[hf] at h1
       cases h1
       rw[hd] at h2
       cases h2)
      rw[hJ] at HI HD hc9
      clear hO hdd hf hd h64 hJ
      go_wp2_with fail
      refine TX.bD (T:=uI KP.out) [TX.ai.is (.pointer (some ⟨p.a,0,none⟩)),TX.ai.is (.int .i64 (J:Int)),TX.ai.is (.bool true),TX.ai.is (.bool true),TX.ai.is (.pointer (some ⟨p.a,0,none⟩)),TX.ai.is (.int .i64 (J:Int)),TX.ai.is (.bool true),TX.ai.is (.bool false),TX.ai.is (.bool false),TX.ai.is (.bool false),TX.ai.is undef,TX.ai.is undef,TX.ai.is undef,TX.ai.is undef,TX.ai.is undef,TX.ai.is undef,TX.ai.is undef,TX.ai.is undef,TX.ai.is (.bool false)] (by kernel_rfl) (by kernel_rfl) rfl (by kernel_rfl) (fun ops K2 hops hK=> ?_)
      refine TX.aa (TX.ah rfl) (fun w' hC hd=>TX.aj _ (.inl rfl) rfl) (by go_frame;rfl) (by simp only[List.nil_append,List.cons_append];rfl) ?_
      refine TX.aa (TX.ah rfl) (fun w' hC hd=>TX.aj _ (.inl rfl) rfl) (by go_frame;rfl) (by simp only[List.nil_append,List.cons_append];rfl) ?_
      refine TX.aa (TX.ah rfl) (fun w' hC hd=>TX.dQ 66 (.pointer (some ⟨p.a,0,none⟩)) 67 (.int .i64 (J:Int)) rfl rfl (fun ρ hρ hf e0 e1=>TX.cZ (f:=49) (by go_simp) (kL KP.out HI.out HO.out hC))) (by go_frame;rfl) (by simp only[List.nil_append,List.cons_append];rfl) ?_
      refine TX.aa (TX.ah rfl) (fun w' hC hd=>TX.aj _ (.inl rfl) rfl) (by go_frame;rfl) (by simp only[List.nil_append,List.cons_append];rfl) ?_
      refine TX.aa (TX.aY hops rfl rfl rfl rfl) (fun w' hC hd=>TX.aj _ (.inl rfl) rfl) (by go_frame;rfl) (by simp only[List.nil_append,List.cons_append];rfl) ?_
      refine TX.aa (TX.aY hops rfl rfl rfl rfl) (fun w' hC hd=>TX.aj _ (.inl rfl) rfl) (by go_frame;rfl) (by simp only[List.nil_append,List.cons_append];rfl) ?_
      refine TX.aa (TX.aY hops rfl rfl rfl rfl) (fun w' hC hd=>TX.dQ 70 (.pointer (some ⟨p.a,0,none⟩)) 71 (.int .i64 (J:Int)) rfl rfl (fun ρ hρ hf e0 e1=>TX.cZ (f:=50) (by go_simp) (kL KP.out HD.out HO.out hC))) (by go_frame;rfl) (by simp only[List.nil_append,List.cons_append];rfl) ?_
      refine TX.aa (TX.aY hops rfl rfl rfl rfl) (fun w' hC hd=>TX.aB 72 (.bool true) rfl (fun ρ hρ hf e0=>TX.aD (by go_simp))) (by go_frame;rfl) (by simp only[List.nil_append,List.cons_append];rfl) ?_
      refine TX.aa (TX.ah rfl) (fun w' hC hd=>TX.iX _ _ _ true rfl rfl rfl) (by go_frame;rfl) (by simp only[List.nil_append,List.cons_append];rfl) ?_
      refine TX.aa (TX.ah rfl) (fun w' hC hd=>TX.aj _ (.inl rfl) rfl) (by go_frame;rfl) (by simp only[List.nil_append,List.cons_append];rfl) ?_
      refine TX.fE (TX.jG hops rfl rfl rfl rfl) (by go_frame;rfl) (by simp only[List.nil_append,List.cons_append];rfl) ?_
      refine TX.fE (TX.jG hops rfl rfl rfl rfl) (by go_frame;rfl) (by simp only[List.nil_append,List.cons_append];rfl) ?_
      refine TX.fE (TX.jG hops rfl rfl rfl rfl) (by go_frame;rfl) (by simp only[List.nil_append,List.cons_append];rfl) ?_
      refine TX.fE (TX.jG hops rfl rfl rfl rfl) (by go_frame;rfl) (by simp only[List.nil_append,List.cons_append];rfl) ?_
      refine TX.fE (TX.jG hops rfl rfl rfl rfl) (by go_frame;rfl) (by simp only[List.nil_append,List.cons_append];rfl) ?_
      refine TX.fE (TX.jG hops rfl rfl rfl rfl) (by go_frame;rfl) (by simp only[List.nil_append,List.cons_append];rfl) ?_
      refine TX.fE (TX.jG hops rfl rfl rfl rfl) (by go_frame;rfl) (by simp only[List.nil_append,List.cons_append];rfl) ?_
      refine TX.fE (TX.jG hops rfl rfl rfl rfl) (by go_frame;rfl) (by simp only[List.nil_append,List.cons_append];rfl) ?_
      refine TX.aa (TX.ah rfl) (fun w' hC hd=>TX.iX _ _ _ false rfl rfl rfl) (by go_frame;rfl) (by simp only[List.nil_append,List.cons_append];rfl) ?_
      refine TX.gD (fun w2 hC hk=>hK _ _ ?_)
      have HS9:=hid (hC HO.out)
      clear hC hk hK
      go_wp2_with fail
      go_roundw
      case rel=>exact⟨k+1,l,by omega,by go_num,HS9.out.next HNo.out⟩
      case measure=>simp[intOf];omega
     |false=>
      have HD:=hid ((tintFns.dead (cfR N) D (nth L k) h64).as (vb (hdd.trans hd)) rfl)
      obtain⟨rc,hrc⟩:∃rc:Int,rc=t.mr.refs:=⟨_,rfl⟩
      have HC:=hid ((zH (c:=cfR N) (D:=D) h64).as (vi (show D.cnt (nth L k)=rc by unfold Wd.cnt;rw[hf,hrc])) rfl)
      obtain⟨M,hM⟩:∃M:Nat,M=uh D L L.length J:=⟨_,rfl⟩
      have hMs:M=sumL (nmT (nth L k)) D.ts:=by rw[hM,Nh HF.out,hJ]
      have HCell:∀w',(uI KP.out).r wr w'→w'.cell? ⟨q,J,none⟩=some (.int .i64 (M:Int)):=fun w' hC=>by
       rw[hM]
       exact(hC HO.out).nm.arr (by omega)
      have hjl:J<N+1:=by omega
      have hji:(J:Int)<(N:Int)+1:=by omega
      have hj0:(0:Int)≤(J:Int):=by omega
      by_cases hgt:(M:Int)<rc
      ·have HYes:Hid (wZ D (J:Int)):=hid (hJ▸⟨t,hf,hd,by rw[←hMs,←hrc];exact hgt⟩)
       rw[hJ] at HI HD HC hc9
       clear hO hdd hf hd h64 hJ hrc hM hMs
       go_wp2_with fail
       refine TX.bD (T:=uI KP.out) [TX.ai.is (.pointer (some ⟨p.a,0,none⟩)),TX.ai.is (.int .i64 (J:Int)),TX.ai.is (.bool true),TX.ai.is (.bool true),TX.ai.is (.pointer (some ⟨p.a,0,none⟩)),TX.ai.is (.int .i64 (J:Int)),TX.ai.is (.bool false),TX.ai.is (.bool true),TX.ai.is (.bool true),TX.ai.is (.bool true),TX.ai.is (.pointer (some ⟨p.a,0,none⟩)),TX.ai.is (.int .i64 (J:Int)),TX.ai.is (.int .i64 rc),TX.ai.is (.slice (some ⟨q,0,none⟩) (N+1) (N+1)),TX.ai.is (.int .i64 (J:Int)),TX.ai.is (.pointer (some ⟨q,J,none⟩)),TX.ai.is (.int .i64 (M:Int)),TX.ai.is (.bool true),TX.ai.is (.bool true)] (by kernel_rfl) (by kernel_rfl) rfl (by kernel_rfl) (fun ops K2 hops hK=> ?_)
       refine TX.aa (TX.ah rfl) (fun w' hC hd=>TX.aj _ (.inl rfl) rfl) (by go_frame;rfl) (by simp only[List.nil_append,List.cons_append];rfl) ?_
       refine TX.aa (TX.ah rfl) (fun w' hC hd=>TX.aj _ (.inl rfl) rfl) (by go_frame;rfl) (by simp only[List.nil_append,List.cons_append];rfl) ?_
       refine TX.aa (TX.ah rfl) (fun w' hC hd=>TX.dQ 66 (.pointer (some ⟨p.a,0,none⟩)) 67 (.int .i64 (J:Int)) rfl rfl (fun ρ hρ hf e0 e1=>TX.cZ (f:=49) (by go_simp) (kL KP.out HI.out HO.out hC))) (by go_frame;rfl) (by simp only[List.nil_append,List.cons_append];rfl) ?_
       refine TX.aa (TX.ah rfl) (fun w' hC hd=>TX.aj _ (.inl rfl) rfl) (by go_frame;rfl) (by simp only[List.nil_append,List.cons_append];rfl) ?_
       refine TX.aa (TX.aY hops rfl rfl rfl rfl) (fun w' hC hd=>TX.aj _ (.inl rfl) rfl) (by go_frame;rfl) (by simp only[List.nil_append,List.cons_append];rfl) ?_
       refine TX.aa (TX.aY hops rfl rfl rfl rfl) (fun w' hC hd=>TX.aj _ (.inl rfl) rfl) (by go_frame;rfl) (by simp only[List.nil_append,List.cons_append];rfl) ?_
       refine TX.aa (TX.aY hops rfl rfl rfl rfl) (fun w' hC hd=>TX.dQ 70 (.pointer (some ⟨p.a,0,none⟩)) 71 (.int .i64 (J:Int)) rfl rfl (fun ρ hρ hf e0 e1=>TX.cZ (f:=50) (by go_simp) (kL KP.out HD.out HO.out hC))) (by go_frame;rfl) (by simp only[List.nil_append,List.cons_append];rfl) ?_
       refine TX.aa (TX.aY hops rfl rfl rfl rfl) (fun w' hC hd=>TX.aB 72 (.bool false) rfl (fun ρ hρ hf e0=>TX.aD (by go_simp))) (by go_frame;rfl) (by simp only[List.nil_append,List.cons_append];rfl) ?_
       refine TX.aa (TX.ah rfl) (fun w' hC hd=>TX.iX _ _ _ true rfl rfl rfl) (by go_frame;rfl) (by simp only[List.nil_append,List.cons_append];rfl) ?_
       refine TX.aa (TX.ah rfl) (fun w' hC hd=>TX.aj _ (.inl rfl) rfl) (by go_frame;rfl) (by simp only[List.nil_append,List.cons_append];rfl) ?_
       refine TX.aa (TX.aY hops rfl rfl rfl rfl) (fun w' hC hd=>TX.aj _ (.inl rfl) rfl) (by go_frame;rfl) (by simp only[List.nil_append,List.cons_append];rfl) ?_
       refine TX.aa (TX.aY hops rfl rfl rfl rfl) (fun w' hC hd=>TX.aj _ (.inl rfl) rfl) (by go_frame;rfl) (by simp only[List.nil_append,List.cons_append];rfl) ?_
       refine TX.aa (TX.aY hops rfl rfl rfl rfl) (fun w' hC hd=>TX.dQ 76 (.pointer (some ⟨p.a,0,none⟩)) 77 (.int .i64 (J:Int)) rfl rfl (fun ρ hρ hf e0 e1=>TX.cZ (f:=33) (by go_simp) (kL KP.out HC.out HO.out hC))) (by go_frame;rfl) (by simp only[List.nil_append,List.cons_append];rfl) ?_
       refine TX.aa (TX.aY hops rfl rfl rfl rfl) (fun w' hC hd=>TX.aj _ (.inl rfl) rfl) (by go_frame;rfl) (by simp only[List.nil_append,List.cons_append];rfl) ?_
       refine TX.aa (TX.aY hops rfl rfl rfl rfl) (fun w' hC hd=>TX.aj _ (.inl rfl) rfl) (by go_frame;rfl) (by simp only[List.nil_append,List.cons_append];rfl) ?_
       refine TX.aa (TX.aY hops rfl rfl rfl rfl) (fun w' hC hd=>TX.dQ 79 (.slice (some ⟨q,0,none⟩) (N+1) (N+1)) 80 (.int .i64 (J:Int)) rfl rfl (fun ρ hρ hf e0 e1=>TX.aD (by go_simp))) (by go_frame;rfl) (by simp only[List.nil_append,List.cons_append];rfl) ?_
       refine TX.aa (TX.aY hops rfl rfl rfl rfl) (fun w' hC hd=>TX.aB 81 (.pointer (some ⟨q,J,none⟩)) rfl (fun ρ hρ hf e0=>TX.aD (by have hc0:=HCell w' hC;go_simp))) (by go_frame;rfl) (by simp only[List.nil_append,List.cons_append];rfl) ?_
       refine TX.aa (TX.aY hops rfl rfl rfl rfl) (fun w' hC hd=>TX.dQ 78 (.int .i64 rc) 82 (.int .i64 (M:Int)) rfl rfl (fun ρ hρ hf e0 e1=>TX.aD (by have hb0:=hgt;go_simp))) (by go_frame;rfl) (by simp only[List.nil_append,List.cons_append];rfl) ?_
       refine TX.aa (TX.ah rfl) (fun w' hC hd=>TX.iX _ _ _ true rfl rfl rfl) (by go_frame;rfl) (by simp only[List.nil_append,List.cons_append];rfl) ?_
       refine TX.gD (fun w2 hC hk=>hK _ _ ?_)
       have HS9:=hid (hC HO.out)
       clear hC hk hK
       have HSo:=hid HS9.out
       have hown:=HS9.out.td
       have hsz5:=HS9.out.sz
       clear HS9 HCell
       go_wp2_with (at_builtin;refine wpList_append_lies _ rfl _ _ 45 rfl w5.heap.size 3 i0 (.int .i64 0) 1 8 Tryz.underlying45 hinf hz0 hz1 hz2 rfl (by decide) _ _ _ rfl (hown.alloc _) ⟨w2.heap.size,0,none⟩ 1 1 [.int .i64 (J:Int)] rfl rfl ?c1 ?c2 (by decide) ?c3 ?c4 ?c5 (w2.heap.size+1) (by simp) ?c6)
       case c1=>
        intro j2 z hz
        exact cell_one_new w2 (.int .i64 (J:Int)) 3 j2 z hz
       case c2=>intro u hu;simp at hu;subst hu;rfl
       case c3=>unfold maxLen;omega
       case c4=>omega
       case c5=>simp;omega
       case c6=>
        intro g cap6 w6 ho hg hat hl6
        have HP:=hid (HSo.out.push (x:=(J:Int)) HJk.out.symm HYes.out HW5.out ho hg)
        clear ho hg hat hl6 hown
        go_wp2_with fail
        go_roundw
        case rel=>exact⟨k+1,_,by omega,by go_num,HP.out⟩
        case measure=>simp[intOf];omega
      ·have HNo:Hid (¬wZ D (nth L k)):=hid (fun⟨t2,h1,h2,h3⟩=>by
        rw[hf] at h1
        cases h1
        rw[←hMs,←hrc] at h3
        exact hgt h3)
       rw[hJ] at HI HD HC hc9
       clear hO hdd hf hd h64 hJ hrc hM hMs
       go_wp2_with fail
       refine TX.bD (T:=uI KP.out) [TX.ai.is (.pointer (some ⟨p.a,0,none⟩)),TX.ai.is (.int .i64 (J:Int)),TX.ai.is (.bool true),TX.ai.is (.bool true),TX.ai.is (.pointer (some ⟨p.a,0,none⟩)),TX.ai.is (.int .i64 (J:Int)),TX.ai.is (.bool false),TX.ai.is (.bool true),TX.ai.is (.bool true),TX.ai.is (.bool true),TX.ai.is (.pointer (some ⟨p.a,0,none⟩)),TX.ai.is (.int .i64 (J:Int)),TX.ai.is (.int .i64 rc),TX.ai.is (.slice (some ⟨q,0,none⟩) (N+1) (N+1)),TX.ai.is (.int .i64 (J:Int)),TX.ai.is (.pointer (some ⟨q,J,none⟩)),TX.ai.is (.int .i64 (M:Int)),TX.ai.is (.bool false),TX.ai.is (.bool false)] (by kernel_rfl) (by kernel_rfl) rfl (by kernel_rfl) (fun ops K2 hops hK=> ?_)
       refine TX.aa (TX.ah rfl) (fun w' hC hd=>TX.aj _ (.inl rfl) rfl) (by go_frame;rfl) (by simp only[List.nil_append,List.cons_append];rfl) ?_
       refine TX.aa (TX.ah rfl) (fun w' hC hd=>TX.aj _ (.inl rfl) rfl) (by go_frame;rfl) (by simp only[List.nil_append,List.cons_append];rfl) ?_
       refine TX.aa (TX.ah rfl) (fun w' hC hd=>TX.dQ 66 (.pointer (some ⟨p.a,0,none⟩)) 67 (.int .i64 (J:Int)) rfl rfl (fun ρ hρ hf e0 e1=>TX.cZ (f:=49) (by go_simp) (kL KP.out HI.out HO.out hC))) (by go_frame;rfl) (by simp only[List.nil_append,List.cons_append];rfl) ?_
       refine TX.aa (TX.ah rfl) (fun w' hC hd=>TX.aj _ (.inl rfl) rfl) (by go_frame;rfl) (by simp only[List.nil_append,List.cons_append];rfl) ?_
       refine TX.aa (TX.aY hops rfl rfl rfl rfl) (fun w' hC hd=>TX.aj _ (.inl rfl) rfl) (by go_frame;rfl) (by simp only[List.nil_append,List.cons_append];rfl) ?_
       refine TX.aa (TX.aY hops rfl rfl rfl rfl) (fun w' hC hd=>TX.aj _ (.inl rfl) rfl) (by go_frame;rfl) (by simp only[List.nil_append,List.cons_append];rfl) ?_
       refine TX.aa (TX.aY hops rfl rfl rfl rfl) (fun w' hC hd=>TX.dQ 70 (.pointer (some ⟨p.a,0,none⟩)) 71 (.int .i64 (J:Int)) rfl rfl (fun ρ hρ hf e0 e1=>TX.cZ (f:=50) (by go_simp) (kL KP.out HD.out HO.out hC))) (by go_frame;rfl) (by simp only[List.nil_append,List.cons_append];rfl) ?_
       refine TX.aa (TX.aY hops rfl rfl rfl rfl) (fun w' hC hd=>TX.aB 72 (.bool false) rfl (fun ρ hρ hf e0=>TX.aD (by go_simp))) (by go_frame;rfl) (by simp only[List.nil_append,List.cons_append];rfl) ?_
       refine TX.aa (TX.ah rfl) (fun w' hC hd=>TX.iX _ _ _ true rfl rfl rfl) (by go_frame;rfl) (by simp only[List.nil_append,List.cons_append];rfl) ?_
       refine TX.aa (TX.ah rfl) (fun w' hC hd=>TX.aj _ (.inl rfl) rfl) (by go_frame;rfl) (by simp only[List.nil_append,List.cons_append];rfl) ?_
       refine TX.aa (TX.aY hops rfl rfl rfl rfl) (fun w' hC hd=>TX.aj _ (.inl rfl) rfl) (by go_frame;rfl) (by simp only[List.nil_append,List.cons_append];rfl) ?_
       refine TX.aa (TX.aY hops rfl rfl rfl rfl) (fun w' hC hd=>TX.aj _ (.inl rfl) rfl) (by go_frame;rfl) (by simp only[List.nil_append,List.cons_append];rfl) ?_
       refine TX.aa (TX.aY hops rfl rfl rfl rfl) (fun w' hC hd=>TX.dQ 76 (.pointer (some ⟨p.a,0,none⟩)) 77 (.int .i64 (J:Int)) rfl rfl (fun ρ hρ hf e0 e1=>TX.cZ (f:=33) (by go_simp) (kL KP.out HC.out HO.out hC))) (by go_frame;rfl) (by simp only[List.nil_append,List.cons_append];rfl) ?_
       refine TX.aa (TX.aY hops rfl rfl rfl rfl) (fun w' hC hd=>TX.aj _ (.inl rfl) rfl) (by go_frame;rfl) (by simp only[List.nil_append,List.cons_append];rfl) ?_
       refine TX.aa (TX.aY hops rfl rfl rfl rfl) (fun w' hC hd=>TX.aj _ (.inl rfl) rfl) (by go_frame;rfl) (by simp only[List.nil_append,List.cons_append];rfl) ?_
       refine TX.aa (TX.aY hops rfl rfl rfl rfl) (fun w' hC hd=>TX.dQ 79 (.slice (some ⟨q,0,none⟩) (N+1) (N+1)) 80 (.int .i64 (J:Int)) rfl rfl (fun ρ hρ hf e0 e1=>TX.aD (by go_simp))) (by go_frame;rfl) (by simp only[List.nil_append,List.cons_append];rfl) ?_
       refine TX.aa (TX.aY hops rfl rfl rfl rfl) (fun w' hC hd=>TX.aB 81 (.pointer (some ⟨q,J,none⟩)) rfl (fun ρ hρ hf e0=>TX.aD (by have hc0:=HCell w' hC;go_simp))) (by go_frame;rfl) (by simp only[List.nil_append,List.cons_append];rfl) ?_
       refine TX.aa (TX.aY hops rfl rfl rfl rfl) (fun w' hC hd=>TX.dQ 78 (.int .i64 rc) 82 (.int .i64 (M:Int)) rfl rfl (fun ρ hρ hf e0 e1=>TX.aD (by have hb0:=hgt;go_simp))) (by go_frame;rfl) (by simp only[List.nil_append,List.cons_append];rfl) ?_
       refine TX.aa (TX.ah rfl) (fun w' hC hd=>TX.iX _ _ _ true rfl rfl rfl) (by go_frame;rfl) (by simp only[List.nil_append,List.cons_append];rfl) ?_
       refine TX.gD (fun w2 hC hk=>hK _ _ ?_)
       have HS9:=hid (hC HO.out)
       clear hC hk hK
       clear HCell
       go_wp2_with fail
       go_roundw
       case rel=>exact⟨k+1,l,by omega,by go_num,HS9.out.next HNo.out⟩
       case measure=>simp[intOf];omega
    ·obtain rfl:k=L.length:=by omega
     obtain⟨a3,cap3,rfl,hrow⟩:=Row.kJ hO.td
     have HRow:=hid hrow
     have HAl:Hid (∀x,x∈L→wZ D x→x∈l):=hid (fun x hx hc=>by
      obtain⟨i,hi,e⟩:=List.getElem_of_mem hx
      have h1:nth L i=x:=by rw[←e];unfold nth;simp[List.getD,hi]
      rw[←h1] at hc ⊢
      exact hO.all i hi hc)
     clear hO hrow
     go_wp2_with fail
     go_ret2
     exact⟨a3,cap3,l,hq,H,rfl,HRow.out,HO.out.len,HO.out.mem,HAl.out,HO.out.st,(Touch.of_below HB.out).trans HO.out.tc,HH.out.touch HO.out.tc (fun hx=>HNh.out.1 (Or.inr hx)),(HHd.out.touch HO.out.tc (fun b hx=>Nat.lt_of_not_le (fun hle=>HS0.out.xz (Nat.le_trans HSz.out.2 hle) (Or.inr hx)))).mono HSz.out.2,HNh.out.2.1⟩
def Wd.empt(D:Wd)(r:Int)(i:Nat)(x:Int):Wd:=if(D.setP r i 0).cnt x=0 then D.setP r i 0 else((D.setP r i 0).down x).inter x
def Wd.reapB(D:Wd):Bool:=decide (D.phase=3)&&decide (D.cursor<(D.n:Int))
def Wd.reapAt(D:Wd):Option Th→Wd
 |none=>D.move (D.cursor+1) 0
 |some t=>if t.mr.dead=true∨t.mr.color=D.parity then D.move (D.cursor+1) 0
  else if D.field<(t.pt.length:Int) then(D.empt (D.cursor+1) D.field.toNat (nth t.pt D.field.toNat)).move D.cursor (D.field+1)
  else(D.paint (D.cursor+1)).move (D.cursor+1) 0
def Wd.reap(D:Wd):Wd:=if D.reapB then D.reapAt (D.find (D.cursor+1)) else D
section
variable {D D':Wd} {t u:Th} {r x y:Int} {hold:Nat→Nat} {k i:Nat} {c:Cf}
theorem reap_idle(h:D.reapB=false):D.reap=D:=by unfold Wd.reap;rw[h];rfl
theorem reap_no(h:D.phase≠3):D.reapB=false:=by unfold Wd.reapB;rw[decide_eq_false h];rfl
theorem Eu(h:D.phase=3)(r:Int)(i:Nat)(x:Int):D.empt r i x=D.drain r i x:=by
 have hl:(D.setP r i 0).lighten x=D.setP r i 0:=by
  unfold Wd.lighten
  have:(D.setP r i 0).lighter x=false:=by
   unfold Wd.lighter
   have e:(D.setP r i 0).phase=3:=h
   rw[e]
   rfl
  rw[this]
  rfl
 unfold Wd.empt Wd.drain
 rw[hl,ite_self]
 rfl
theorem reap_ind{P:Wd→Prop}(hF:0≤D.field)(h0:P D)(hn:∀D (x y:Int),P D→P (D.move x y))(hp:∀r,P (D.paint r))(he:∀r t i,D.find r=some t→t.mr.dead=false→i<t.pt.length→P (D.drain r i (nth t.pt i))):P D.reap:=by
 unfold Wd.reap
 cases hb:D.reapB with
 |false=>exact h0
 |true=>
  have h3:D.phase=3:=by
   unfold Wd.reapB at hb
   simp at hb
   exact hb.1
  rw[if_pos rfl]
  unfold Wd.reapAt
  split
  ·exact hn _ _ _ h0
  ·rename_i t hf
   split
   ·exact hn _ _ _ h0
   ·rename_i hd
    split
    ·rename_i hff
     rw[Eu h3]
     exact hn _ _ _ (he _ t _ hf (by cases h:t.mr.dead;rfl;exact absurd (.inl h) hd) (by omega))
    ·exact hn _ _ _ (hp _)
theorem Nam.paint(N:Nam hold D)(S:San D)(r:Int):Nam hold (D.paint r):=N.mark S r (f:=fun m=>{m with color:=D.parity}) (fun _=>rfl) (fun _=>rfl)
theorem San.reap(S:San D)(hF:0≤D.field):San D.reap:=reap_ind hF S (fun D x y S=>S.move x y) (fun r=>S.paint r) (fun r t i hf _ _=>S.drain hf i _)
theorem Nam.reap(N:Nam hold D)(S:San D)(hF:0≤D.field):Nam hold D.reap:=reap_ind hF N (fun D x y N=>N.ts rfl) (fun r=>N.paint S r) (fun r t i hf _ hi=>N.drain S hf hi)
theorem Pos1.reap(P:Pos1 0 D)(N:Nam hold D)(S:San D)(hF:0≤D.field):Pos1 0 D.reap:=reap_ind hF P (fun D x y P=>P.ts rfl) (fun r=>P.mark S r (f:=fun m=>{m with color:=D.parity}) (fun _=>rfl) (fun _ h=>h)) (fun r t i hf _ hi=>P.drain N S hf hi)
theorem fF.reap(h:fF k D)(hF:0≤D.field):fF k D.reap:=reap_ind hF h (fun D x y h=>h.move x y) (fun r=>h.keep r (fun m=>{m with color:=D.parity}) (fun _=>Int.le_refl _) (fun _=>Int.le_refl _)) (fun r t i _ _ _=>h.drain r i _)
theorem Ny(hF:0≤D.field):D.reap.ts.map Th.h=D.ts.map Th.h:=reap_ind (P:=fun E=>E.ts.map Th.h=D.ts.map Th.h) hF rfl (fun D x y h=>h) (fun r=>dF r _) (fun r t i _ _ _=>BG r i _)
theorem reap_lh(hF:0≤D.field):D.reap.live.map Th.h=D.live.map Th.h:=reap_ind (P:=fun E=>E.live.map Th.h=D.live.map Th.h) hF rfl (fun D x y h=>h) (fun r=>aX r _) (fun r t i hf _ _=>BH hf i _)
theorem PInv.reap(I:PInv c k D)(hF:0≤D.field):PInv c k D.reap:=⟨I.san.reap hF,I.bd.reap hF,by rw[Ny hF];exact I.hd⟩
theorem fK.reap(I:fK hold k D)(hF:0≤D.field):fK hold k D.reap:=⟨I.san.reap hF,I.nam.reap I.san hF,I.pos.reap I.nam I.san hF,I.bd,si I (reap_lh hF)⟩
end
section
variable {c:Cf} {zs:List Int} {D:Wd} {t:Th} {r:Int}
theorem Ph(hr:In64 r):Does c D 49 [.int .i64 r] 1 D (.bool (D.find r).isSome):=fun zs hz R=>by
 have e:=Pf R.heap hz.may hr
 rw[obAt_find R r,Option.isSome_map] at e
 rw[←e]
 exact⟨zs,⟨1*dK (ax c (prev r) 0),by have:=oC (ax c (prev r) 0);omega,fun p m w hG=>vO hG r⟩,R⟩
theorem za(R:au c zs D)(hf:D.find r=some t):Run c 110 [.int .i64 r] zs 3 zs (.tuple #[.int .i64 (t.pt.length:Int),.int .i64 (t.dt.length:Int),.int .i64 0]):=fun p m w hG=>by
 obtain⟨htl,rfl⟩:=find_live hf
 exact nT (s:=⟨zs,m⟩) (o:=t.ob) hG R.heap (R.obMem htl)
theorem Kc(hz:Wz c zs)(R:au c zs D)(hr:In64 r)(h0:D.cnt r=0):∃d,d≤8∧Run c 111 [.int .i64 r] zs d zs (.tuple #[.int .i64 0,.bool false]):=by
 cases hf:D.find r with
 |none=>exact countFns.down_no c zs D.clean D.obs r hz R.heap hr (by rw[obAt_find R r,hf];rfl)
 |some t=>
  obtain⟨htl,rfl⟩:=find_live hf
  have e:t.mr.refs=0:=by unfold Wd.cnt at h0;rw[hf] at h0;exact h0
  exact countFns.down_zero c zs D.clean D.obs t.ob hz R.heap (R.obMem htl) (by have e3:nth zs (adr c t.ob.h 3)=t.mr.refs:=(R.own t htl).w3;rw[e3];exact e)
theorem Cg(hf:D.find r=some t){f:Int}(hn:¬f<(t.pt.length:Int)):Does c D 52 [.int .i64 r,.int .i64 f] 3 D (.bool false):=fun zs hz R=>
 ⟨zs,⟨3,Nat.le_refl _,Dc hn (za R hf)⟩,R⟩
theorem Kq(S:San D)(hf:D.find r=some t)(hd:t.mr.dead=false){i:Nat}(hi:i<t.pt.length):Does c D 52 [.int .i64 r,.int .i64 (i:Int)] 72 (D.empt r i (nth t.pt i)) (.bool true):=fun zs hz R=>by
 obtain⟨htl,er⟩:=find_live hf
 have hk:=S.ok t htl
 have hpb:=S.vS R hz.may
 have hr:In64 r:=by rw[←er];exact R.heap.xy hz.may (R.obMem htl)
 have C0:=za R hf
 obtain⟨a,ha⟩:=(hk.alive hd).field hz.may R.w.symm hk.qp hi
 obtain⟨⟨d1,hd1,C1⟩,hx0,hx1⟩:=qN hz R hr hf hi ha
 obtain⟨⟨d2,hd2,C2⟩,R2,hz2⟩:=mJ hz R hf hi ha (x:=0) (Int.le_refl 0) (by omega)
 have hn:(i:Int)<(t.pt.length:Int):=by omega
 generalize nth t.pt i=x at C1 hx0 hx1
 have hxr:In64 x:=by unfold In64;omega
 unfold Wd.empt
 by_cases hc:(D.setP r i 0).cnt x=0
 ·rw[if_pos hc]
  obtain⟨d3,hd3,C3⟩:=Kc hz2 R2 hxr hc
  exact⟨_,⟨3+d1+d2+d3,by omega,xJ hn C0 C1 C2 C3⟩,R2⟩
 ·rw[if_neg hc]
  cases hu:(D.setP r i 0).find x with
  |none=>exact absurd (by unfold Wd.cnt;rw[hu]) hc
  |some u=>
   have hcu:(D.setP r i 0).cnt x=u.mr.refs:=by unfold Wd.cnt;rw[hu]
   obtain⟨zs3,C3,R3⟩:=zI hz2 R2 hu (by rw[←hcu];exact hc)
   have hz3:Wz c zs3:=gu.wz hz2 ⟨3,Nat.le_refl _,C3⟩
   have hcd:((D.setP r i 0).down x).cnt x=u.mr.refs-1:=by unfold Wd.cnt Wd.down;rw[mark_find _ hu]
   by_cases hk1:u.mr.refs-1=0
   ·rw[hk1] at C3
    obtain⟨zs4,⟨d4,hd4,C4⟩,R4,hz4⟩:=(BX (c:=c) (D:=(D.setP r i 0).down x) hxr hpb.1 (by show D.pending≤_;omega)).at hz3 R3
    exact⟨zs4,⟨3+d1+d2+3+d4,by omega,xH hn C0 C1 C2 C3 C4⟩,R4⟩
   ·have e:((D.setP r i 0).down x).inter x=(D.setP r i 0).down x:=by unfold Wd.inter;rw[if_neg (by rw[hcd];exact hk1)]
    rw[e]
    exact⟨zs3,⟨3+d1+d2+3,by omega,xI hn hk1 C0 C1 C2 C3⟩,R3⟩
theorem ld_reap(S:San D):Does c D 12 [] 96 D.reap (.bool D.reapB):=fun zs hz R=>by
 have hm:=hz.may
 have hmn:=hm.n
 have hN:=R.n
 obtain⟨⟨k0,k1⟩,f0,f1⟩:=R.curs hz
 obtain⟨zs1,⟨d1,hd1,C1⟩,R1,hz1⟩:=(tintFns.at_ c D).at hz R
 obtain⟨zs2,⟨d2,hd2,C2⟩,R2,hz2⟩:=(tintFns.phase c D).at hz1 R1
 by_cases hp:D.phase=3
 ·rw[hp] at C2
  by_cases hk:D.cursor<(D.n:Int)
  ·have e:D.reapB=true:=by unfold Wd.reapB;simp[hp,hk]
   have hk':D.cursor<(c.N:Int):=by rw[←hN];exact hk
   have hr:In64 (D.cursor+1):=by constructor<;>omega
   unfold Wd.reap
   rw[e,if_pos rfl]
   obtain⟨zs3,⟨d3,hd3,C3⟩,R3,hz3⟩:=(Ph (c:=c) (D:=D) hr).at hz2 R2
   cases hf:D.find (D.cursor+1) with
   |none=>
    rw[hf] at C3
    obtain⟨zs4,⟨d4,hd4,C4⟩,R4,hz4⟩:=(iZ (c:=c) (D:=D) (x:=D.cursor+1) (y:=0) (by omega) (by omega) (by omega) (by omega)).at hz3 R3
    exact⟨zs4,⟨d1+d2+d3+d4,by omega,Al k0 hk' hm C1 C2 C3 C4⟩,R4⟩
   |some t=>
    rw[hf] at C3
    have hdd:D.dead (D.cursor+1)=t.mr.dead:=by unfold Wd.dead;rw[hf]
    have hbb:D.fG (D.cursor+1)=decide (t.mr.color=D.parity):=by unfold Wd.fG;rw[hf]
    obtain⟨zs4,⟨d4,hd4,C4⟩,R4,hz4⟩:=(tintFns.dead c D (D.cursor+1) hr).at hz3 R3
    rw[hdd] at C4
    unfold Wd.reapAt
    simp only
    cases hd:t.mr.dead with
    |true=>
     rw[hd] at C4
     rw[if_pos (.inl rfl)]
     obtain⟨zs5,⟨d5,hd5,C5⟩,R5,hz5⟩:=(iZ (c:=c) (D:=D) (x:=D.cursor+1) (y:=0) (by omega) (by omega) (by omega) (by omega)).at hz4 R4
     exact⟨zs5,⟨d1+d2+d3+d4+d5,by omega,Aj k0 hk' hm C1 C2 C3 C4 C5⟩,R5⟩
    |false=>
     rw[hd] at C4
     obtain⟨zs5,⟨d5,hd5,C5⟩,R5,hz5⟩:=(tintFns.fG c D (D.cursor+1) hr).at hz4 R4
     rw[hbb] at C5
     by_cases hc:t.mr.color=D.parity
     ·rw[decide_eq_true hc] at C5
      rw[if_pos (.inr hc)]
      obtain⟨zs6,⟨d6,hd6,C6⟩,R6,hz6⟩:=(iZ (c:=c) (D:=D) (x:=D.cursor+1) (y:=0) (by omega) (by omega) (by omega) (by omega)).at hz5 R5
      exact⟨zs6,⟨d1+d2+d3+d4+d5+d6,by omega,xE k0 hk' hm C1 C2 C3 C4 C5 C6⟩,R6⟩
     ·rw[decide_eq_false hc] at C5
      rw[if_neg (fun h=>h.elim (fun h=>by cases h) hc)]
      by_cases hff:D.field<(t.pt.length:Int)
      ·obtain⟨j,hj⟩:=Int.eq_ofNat_of_zero_le f0
       have hjl:j<t.pt.length:=by omega
       have hsz:=(R5.szt hm S (find_live hf).1).small
       obtain⟨zs6,⟨d6,hd6,C6⟩,R6,hz6⟩:=(Kq (c:=c) S hf hd hjl).at hz5 R5
       obtain⟨zs7,⟨d7,hd7,C7⟩,R7,hz7⟩:=(iZ (c:=c) (D:=D.empt (D.cursor+1) j (nth t.pt j)) (x:=D.cursor) (y:=(j:Int)+1) (by omega) (by omega) (by omega) (by omega)).at hz6 R6
       rw[if_pos hff]
       rw[hj] at C1 ⊢
       rw[Int.toNat_natCast]
       exact⟨zs7,⟨d1+d2+d3+d4+d5+d6+d7,by omega,Ff (f:=(j:Int)) (by omega) (by omega) k0 hk' hm C1 C2 C3 C4 C5 C6 C7⟩,R7⟩
      ·obtain⟨zs6,⟨d6,hd6,C6⟩,R6,hz6⟩:=(Cg (c:=c) hf hff).at hz5 R5
       obtain⟨zs7,⟨d7,hd7,C7⟩,R7,hz7⟩:=(tintFns.paint c D (D.cursor+1) hr).at hz6 R6
       obtain⟨zs8,⟨d8,hd8,C8⟩,R8,hz8⟩:=(iZ (c:=c) (D:=D.paint (D.cursor+1)) (x:=D.cursor+1) (y:=0) (by omega) (by omega) (by omega) (by omega)).at hz7 R7
       rw[if_neg hff]
       exact⟨zs8,⟨d1+d2+d3+d4+d5+d6+d7+d8,by omega,Ak k0 hk' hm C1 C2 C3 C4 C5 C6 C7 C8⟩,R8⟩
  ·have e:D.reapB=false:=by unfold Wd.reapB;simp[hk]
   rw[reap_idle e,e]
   exact⟨zs2,⟨d1+d2,by omega,Da (by rw[←hN];omega) C1 C2⟩,R2⟩
 ·have e:=reap_no hp
  rw[reap_idle e,e]
  exact⟨zs2,⟨d1+d2,by omega,xG hp C1 C2⟩,R2⟩
end
end Go.Proofs.YtjmifnljckmimaaGreat.Pk
