/-
  Texts laid together: TallyOne, FloodInv, FloodFin, FloodFindF.
-/
import Derived.Test.YtofhdfjkhfkhiaaGreatRefSeeEtc
import Derived.Test.YtofhdfjkhfkhiaaGreatGravGrownEtc
import Derived.Test.YtofhdfjkhfkhiaaGreatWholeRowFEtc
import Derived.Test.YtofhdfjkhfkhiaaGreatFloodWEtc
import Derived.Test.YtofhdfjkhfkhiaaGreatFloodRchEtc
import Derived.Test.YtofhdfjkhfkhiaaGreatTameEtc
namespace Go.Proofs.YtofhdfjkhfkhiaaGreat.Pk
open Lib (hid)
open Go.RowKit
set_option linter.unusedVariables false
set_option linter.unusedSimpArgs false
set_option maxRecDepth 100000
structure iF (c:Cf) (hold:Nat→Nat) (k:Nat) (ph:Int) (D:Wd):Prop where
 li:LInv hold k D
 tm:TM D
 pi:PInv c k D
 fl:D.field≤100000
 phs:D.phase=ph
def hN(hold:Nat→Nat)(i:Nat):Nat:=if i=0 then 0 else hold (i-1)
def Ev(w:World)(p:Pl)(c:Cf)(q k:Nat)(ph:Int)(D:Wd)(hold:Nat→Nat)(wr:World):Prop:=
 RSt w p c D wr∧iF c hold k ph D∧Blk wr q (arrV (fun i=>.int .i64 ((hN hold i:Nat):Int)) (c.N+1)) 3∧¬ofG p q∧w.heap.size≤q
section
variable {w wr w':World} {p:Pl} {c:Cf} {q k:Nat} {D D':Wd} {hold hold':Nat→Nat} {ph:Int} {t u:Th} {r x y i:Int}
theorem iF.mono{K:Nat}(O:iF c hold k ph D)(h:k≤K):iF c hold K ph D:=⟨O.li.mono h,O.tm,O.pi.mono h,O.fl,O.phs⟩
theorem iF.new{v:Nat}(hv:16≤v):iF c (fun _=>0) 0 0 (Wd.new c.N v):=⟨LInv.new c.N hv,.inl ⟨rfl,Dyed.new _ _⟩,PInv.new c hv,show(0:Int)≤100000 by decide,rfl⟩
theorem iF.put(O:iF c hold k ph D)(hf:D.find r=some t)(hd:t.mr.dead=false){j:Nat}(hi:j<t.pt.length)(hx:x=0∨∃u,D.find x=some u∧u.mr.dead=false):iF c hold (k+1) ph (D.put r j x (nth t.pt j)):=
 ⟨(O.li.put hf hd hi hx).mono (Nat.le_succ k),O.tm.put O.li.san O.li.nam hf hd hi,O.pi.put hf hd j x _,by rw[(put_sam r j x (nth t.pt j)).2.2.1];exact O.fl,(put_sam r j x (nth t.pt j)).2.2.2.trans O.phs⟩
theorem iF.more(O:iF c hold k ph D)(hf:D.find r=some u)(hd:u.mr.dead=false)(hh:∀h:Nat,hold' h=hold h+if(h:Int)+1=r then 1 else 0):iF c hold' (k+1) ph (D.more r):=
 ⟨O.li.up hf hd hh,O.tm.up O.li.san r,O.pi.to (O.li.san.more r) (O.pi.bd.more r) (more_hd r),by rw[(more_sam r).2.2.1];exact O.fl,(more_sam r).2.2.2.trans O.phs⟩
theorem iF.less(O:iF c hold k ph D)(hh:∀h:Nat,hold h=hold' h+if(h:Int)+1=r then 1 else 0):iF c hold' (k+1) ph (D.less r):=
 ⟨(O.li.let hh).mono (Nat.le_succ k),O.tm.less O.li.san r,O.pi.to (O.li.san.less r) ((O.pi.bd.less r).mono (Nat.le_succ k)) (less_hd r),by rw[(less_sam r).2.2.1];exact O.fl,(less_sam r).2.2.2.trans O.phs⟩
theorem iF.born(O:iF c hold k ph D)(B:BornOk D x y c.N)(hE:D.mkE x y=0)(hh:∀h:Nat,hold' h=hold h+if h=D.mkB then 1 else 0):iF c hold' (k+1) ph (D.born x y):=
 ⟨O.li.born B hE hh,O.tm.born O.li.san B,O.pi.born B,by rw[born_sam.2.2.1];exact O.fl,born_sam.2.2.2.trans O.phs⟩
theorem RSt.fields(h:RSt w p c D wr):0≤D.field:=by
 obtain⟨zs,m,hG,hR,_⟩:=h
 exact(hR.curs hG.wz).2.1
theorem iF.step(O:iF c hold k ph D)(hF:0≤D.field):iF c hold (k+1) ph D.step:=
 iF.mono ⟨O.li.step,O.tm.step O.li.san O.li.nam hF,O.pi.step,by rw[step_sam.2.2.1];exact O.fl,step_sam.2.2.2.trans O.phs⟩ (Nat.le_succ k)
theorem tally_fl(h:D.field≤100000)(hs:∀t,t∈D.live→t.pt.length≤100000):D.tally.field≤100000:=by
 unfold Wd.tally
 split
 ·unfold Wd.tallyAt
  cases hf:D.find (D.cursor+1) with
  |none=>exact(show(0:Int)≤100000 by decide)
  |some t=>
   have:=hs t (find_live hf).1
   simp only
   split
   ·exact(show(0:Int)≤100000 by decide)
   ·split
    ·show D.field+1≤100000
     omega
    ·exact(show(0:Int)≤100000 by decide)
 ·exact h
theorem Nam.tally(N:Nam hold D)(S:San D):Nam hold D.tally:=by
 unfold Wd.tally
 split
 ·unfold Wd.tallyAt
  split
  ·exact N.ts rfl
  ·split
   ·exact N.ts rfl
   ·split
    ·exact(N.mark S _ (f:=fun m=>{m with shade:=D.parity,shadow:=D.shd (nth _ D.field.toNat)+1}) (fun _=>rfl) (fun _=>rfl)).ts rfl
    ·exact(N.mark S _ (f:=fun m=>{m with count:=D.parity}) (fun _=>rfl) (fun _=>rfl)).ts rfl
 ·exact N
theorem Pos1.tally(P:Pos1 x D)(S:San D):Pos1 x D.tally:=by
 unfold Wd.tally
 split
 ·unfold Wd.tallyAt
  split
  ·exact P.ts rfl
  ·split
   ·exact P.ts rfl
   ·split
    ·exact(P.mark S _ (f:=fun m=>{m with shade:=D.parity,shadow:=D.shd (nth _ D.field.toNat)+1}) (fun _=>rfl) (fun _ h=>h)).ts rfl
    ·exact(P.mark S _ (f:=fun m=>{m with count:=D.parity}) (fun _=>rfl) (fun _ h=>h)).ts rfl
 ·exact P
theorem JZ:D.tally.live.map Th.h=D.live.map Th.h:=by
 unfold Wd.tally
 split
 ·unfold Wd.tallyAt
  split
  ·rfl
  ·split
   ·rfl
   ·split
    ·exact mark_heads (D:=D) _ (fun m=>{m with shade:=D.parity,shadow:=D.shd (nth _ D.field.toNat)+1})
    ·exact mark_heads (D:=D) _ (fun m=>{m with count:=D.parity})
 ·rfl
theorem LInv.tally(I:LInv hold k D):LInv hold k D.tally:=⟨I.san.tally,I.nam.tally I.san,I.pos.tally I.san,I.bd,out_of I JZ⟩
theorem iF.tally(O:iF c hold k ph D)(hF:0≤D.field)(hs:∀t,t∈D.live→t.pt.length≤100000):iF c hold (k+1) ph D.tally:=
 ⟨O.li.tally.mono (Nat.le_succ k),O.tm.tally O.li.san hF,O.pi.tally,tally_fl O.fl hs,tally_phase.1.trans O.phs⟩
theorem Ev.later(h:Ev w p c q k ph D hold wr)(hb:Below wr.heap.size wr w'):Ev w p c q k ph D hold w':=⟨h.1.later hb,h.2.1,h.2.2.1.later hb,h.2.2.2.1,h.2.2.2.2⟩
theorem Ev.refs(h:Ev w p c q k ph D hold wr)(hk:k≤1000)(hf:D.find r=some t):t.mr.refs<4294967295:=by
 have:=(h.2.1.pi.bd r t hf).1
 omega
theorem Ev.up(h:Ev w p c q k ph D hold wr):Ev w p c q (k+1) ph D hold wr:=⟨h.1,h.2.1.mono (Nat.le_succ k),h.2.2⟩
theorem Ev.does{K:Nat}{f:FuncId}{args:List Value}{B:Nat}{v:Value}(h:Ev w p c q k ph D hold wr)(ha:Does c D f args B D' v)(I:iF c hold K ph D'):
  Calls Tryz.prog f (List.toArray (.pointer (some ⟨p.a,0,none⟩)::args)) wr fun e w'=>e=.returned v∧Ev w p c q K ph D' hold w'∧Touch (inG p) wr w':=by
 refine(h.1.does ha).mono ?_
 rintro e w' ⟨rfl,h1,hT⟩
 exact⟨rfl,⟨h1,I,h.2.2.1.touch hT (fun hx=>h.2.2.2.1 (Or.inr hx)),h.2.2.2⟩,hT⟩
theorem Ev.put(h:RSt w p c D wr)(I:iF c hold' k ph D)(hb:Blk wr q (arrV (fun i=>.int .i64 ((hN hold i:Nat):Int)) (c.N+1)) 3)(hq:¬ofG p q)(hl:w.heap.size≤q){b j:Nat}(hj:j=b+1){v:Int}(hv:v=((hold' b:Nat):Int))(hh:∀h,h≠b→hold' h=hold h):Ev w p c q k ph D hold' (wr.setCell ⟨q,j,none⟩ (.int .i64 v)):=by
 subst hj
 have hT:=(Touch.refl (fun i=>i=q) wr).setCell (p:=⟨q,b+1,none⟩) (fun _=>rfl) (.int .i64 v)
 refine⟨h.touch hT (fun i hi e=>hq (e▸hi)) (fun i e=>by rw[e];exact hl),I,?_,hq,hl⟩
 have:=hb.set (b+1) (.int .i64 v)
 rw[arrV_set] at this
 rw[show arrV (fun i=>Value.int .i64 ((hN hold' i:Nat):Int)) (c.N+1)=arrV (fun j=>if j=b+1 then Value.int .i64 v else Value.int .i64 ((hN hold j:Nat):Int)) (c.N+1) from arrV_congr (fun j _=>by
  by_cases e:j=b+1
  ·rw[if_pos e,e,hv]
   rfl
  ·rw[if_neg e]
   unfold hN
   by_cases e0:j=0
   ·rw[if_pos e0,if_pos e0]
   ·rw[if_neg e0,if_neg e0,hh (j-1) (by omega)])]
 exact this
theorem Ev.cell(h:Blk wr q (arrV (fun i=>.int .i64 ((hN hold i:Nat):Int)) (c.N+1)) 3){b j:Nat}(hj:j=b+1)(hb:b<c.N):wr.cell? ⟨q,j,none⟩=some (.int .i64 ((hold b:Nat):Int)):=by
 subst hj
 exact h.arr (show b+1<c.N+1 by omega)
end
section
variable {w wr:World} {p:Pl} {c:Cf} {q k:Nat} {D:Wd} {hold:Nat→Nat} {ph:Int}
end
section
variable {D D':Wd} {t u:Th} {r x:Int} {hold:Nat→Nat} {k:Nat} {c:Cf}
theorem jv{P:Wd→Prop}(S:San D)(h0:P D)(hm:∀D r,San D→P D→P (D.settle r))(ht:∀D r,San D→P D→P (D.touch r))(hn:∀D D',P D→D'.ts=D.ts→(∀b,b∈D'.ring→b∈D.ring)→D'.clean=D.clean→D'.grave=D.grave→D'.pending=D.pending→D'.w=D.w→D'.n=D.n→P D'):P D.flood:=by
 unfold Wd.flood
 split
 ·split
  ·split
   ·rename_i b rest hr
    exact hn D _ h0 rfl (fun c hc=>by rw[hr];exact List.mem_cons_of_mem _ hc) rfl rfl rfl rfl rfl
   ·refine hn (D.lookT (D.cursor+1) (D.find (D.cursor+1))) D.lookAt ?_ rfl (fun _ h=>h) rfl rfl rfl rfl rfl
    unfold Wd.lookT
    split
    ·exact h0
    ·split
     ·exact h0
     ·split
      ·exact ht _ _ (S.settle _) (hm _ _ S h0)
      ·exact hm _ _ S h0
  ·unfold Wd.scanAt
   split
   ·exact hn D _ h0 rfl (fun _ h=>h) rfl rfl rfl rfl rfl
   ·split
    ·exact hn _ _ (ht _ _ S h0) rfl (fun _ h=>h) rfl rfl rfl rfl rfl
    ·exact hn D _ h0 rfl (fun _ h=>h) rfl rfl rfl rfl rfl
 ·exact h0
theorem Nam.flood(N:Nam hold D)(S:San D):Nam hold D.flood:=
 jv (P:=Nam hold) S N (fun D r S N=>N.mark S r (f:=fun m=>{m with shade:=D.parity,shadow:=D.shd r}) (fun _=>rfl) (fun _=>rfl)) (fun D r S N=>N.touch S r) (fun D D' N h _ _ _ _ _ _=>N.ts h)
theorem Pos1.flood(N:Pos1 x D)(S:San D):Pos1 x D.flood:=
 jv (P:=Pos1 x) S N (fun D r S N=>N.mark S r (f:=fun m=>{m with shade:=D.parity,shadow:=D.shd r}) (fun _=>rfl) (fun _ h=>h)) (fun D r S N=>N.touch S r) (fun D D' N h _ _ _ _ _ _=>N.ts h)
theorem IV(S:San D):D.flood.live.map Th.h=D.live.map Th.h:=
 jv (P:=fun E=>E.live.map Th.h=D.live.map Th.h) S rfl (fun E r _ h=>(mark_heads (D:=E) r (fun m=>{m with shade:=E.parity,shadow:=E.shd r})).trans h) (fun E r _ h=>(vX r).trans h) (fun E E' h e _ _ _ _ _ _=>by
  have:E'.live=E.live:=by unfold Wd.live;rw[e]
  rw[this]
  exact h)
theorem IU(S:San D):D.flood.ts.map Th.h=D.ts.map Th.h:=
 jv (P:=fun E=>E.ts.map Th.h=D.ts.map Th.h) S rfl (fun E r _ h=>(mark_hd (D:=E) r (fun m=>{m with shade:=E.parity,shadow:=E.shd r})).trans h) (fun E r _ h=>(vW r).trans h) (fun E E' h e _ _ _ _ _ _=>by rw[e];exact h)
theorem LInv.flood(I:LInv hold k D):LInv hold k D.flood:=⟨I.san.flood,I.nam.flood I.san,I.pos.flood I.san,I.bd,out_of I (IV I.san)⟩
theorem BDf.flood(h:BDf k D)(S:San D):BDf k D.flood:=
 jv (P:=BDf k) S h (fun E r _ h=>h.mark r (fun m=>{m with shade:=E.parity,shadow:=E.shd r}) (Nat.le_refl _) (fun t ht=>⟨(h r t ht).1,h.shd r⟩)) (fun E r _ h=>h.touch r) (fun E E' h e _ _ _ _ _ _=>h.ts e)
theorem PInv.flood(I:PInv c k D):PInv c k D.flood:=⟨I.san.flood,I.bd.flood I.san,by rw[IU I.san];exact I.hd⟩
def PhOk(ph:Int)(D:Wd):Prop:=(ph=0∧D.phase=0)∨(ph=1∧(D.phase=1∨D.phase=2))
theorem PhOk.of{ph:Int}(h:PhOk ph D)(e:D'.phase=D.phase):PhOk ph D':=by
 unfold PhOk at*
 rw[e]
 exact h
end
def OC(t:Th):Nat × List Int × Bool × Int:=(t.h,t.pt,t.mr.dead,t.mr.refs)
def Pt(D D':Wd):Prop:=∀q,(D'.find q).map OC=(D.find q).map OC
structure BK (m:Int→Prop) (D:Wd):Prop where
 col:∀x t,D.find x=some t→t.mr.color=D.parity→m x
 ring:∀b,b∈D.ring→m ((b:Int)+1)
 scan:D.scan≠0→m D.scan
section
variable {D D' D2:Wd} {t u v:Th} {r x y q:Int} {hold:Nat→Nat} {l fl:List Int} {m:Int→Prop} {N:Nat}
theorem Pt.refl(D:Wd):Pt D D:=fun _=>rfl
theorem Pt.trans(h:Pt D D')(k:Pt D' D2):Pt D D2:=fun q=>(k q).trans (h q)
theorem Pt.symm(h:Pt D D'):Pt D' D:=fun q=>(h q).symm
theorem Pt.ts(h:D'.ts=D.ts):Pt D D':=fun q=>by unfold Wd.find;rw[h]
theorem Pt.mark(D:Wd)(r:Int){f:Mrk→Mrk}(h1:∀m,(f m).dead=m.dead)(h2:∀m,(f m).refs=m.refs):Pt D (D.mark r f):=fun q=>by
 rw[find_mark]
 cases D.find q with
 |none=>rfl
 |some t=>
  simp only[Option.map_some]
  split
  ·unfold OC
   simp only[h1,h2]
  ·rfl
theorem Pt.touch(D:Wd)(r:Int):Pt D (D.touch r):=by
 rcases gI (D:=D) r with h|h
 ·exact Pt.ts h
 ·exact(Pt.mark D r (f:=fun m=>{m with color:=D.parity}) (fun _=>rfl) (fun _=>rfl)).trans (Pt.ts h)
theorem Pt.tally(D:Wd):Pt D D.tally:=by
 unfold Wd.tally
 split
 ·unfold Wd.tallyAt
  split
  ·exact Pt.ts rfl
  ·split
   ·exact Pt.ts rfl
   ·split
    ·exact(Pt.mark D _ (f:=fun m=>{m with shade:=D.parity,shadow:=D.shd _+1}) (fun _=>rfl) (fun _=>rfl)).trans (Pt.ts rfl)
    ·exact(Pt.mark D _ (f:=fun m=>{m with count:=D.parity}) (fun _=>rfl) (fun _=>rfl)).trans (Pt.ts rfl)
 ·exact Pt.refl D
theorem Pt.flood(S:San D):Pt D D.flood:=
 jv (P:=Pt D) S (Pt.refl D) (fun E r _ h=>h.trans (Pt.mark E r (f:=fun m=>{m with shade:=E.parity,shadow:=E.shd r}) (fun _=>rfl) (fun _=>rfl))) (fun E r _ h=>h.trans (Pt.touch E r)) (fun E E' h e _ _ _ _ _ _=>h.trans (Pt.ts e))
theorem Pt.some(h:Pt D D')(hf:D.find q=some t):∃t',D'.find q=some t'∧t'.h=t.h∧t'.pt=t.pt∧t'.mr.dead=t.mr.dead∧t'.mr.refs=t.mr.refs:=by
 have h1:=h q
 rw[hf] at h1
 cases hq:D'.find q with
 |none=>rw[hq] at h1;cases h1
 |some t'=>
  rw[hq] at h1
  have h2:OC t'=OC t:=Option.some.inj h1
  unfold OC at h2
  injection h2 with e1 h2
  injection h2 with e2 h2
  injection h2 with e3 e4
  exact⟨t',rfl,e1,e2,e3,e4⟩
theorem Pt.live(h:Pt D D')(S:San D)(ht:t∈D.live):∃t',t'∈D'.live∧t'.h=t.h:=by
 obtain⟨t',h1,h2,_⟩:=h.some (S.findIt ht)
 exact⟨t',(find_live h1).1,h2⟩
theorem Ku.pt(C:Ku D m)(h:Pt D D'):Ku D' m:=fun x t' hx hf i hi hn=>by
 obtain⟨t,ht,_,e2,_⟩:=h.symm.some hf
 rw[←e2] at hi hn ⊢
 exact C x t hx ht i hi hn
theorem MkR.pt(M:MkR D fl m)(h:Pt D D'):MkR D' fl m:=⟨M.1,M.2.1.pt h,fun R C hf x hx=>M.2.2 R (C.pt h.symm) hf x hx⟩
theorem Out.pt(O:Out hold D)(S:San D)(h:Pt D D'):Out hold D':=fun b hb=>O b (fun t ht e=>by
 obtain⟨t',h1,h2⟩:=h.live S ht
 exact hb t' h1 (h2.trans e))
theorem KJ(hf:D.find x=some v)(ha:v.at r=true):x=r:=by
 have:=(find_live hf).2
 unfold Th.at at ha
 simp at ha
 omega
theorem BK.mark(B:BK m D)(r:Int){f:Mrk→Mrk}(hc:∀m,(f m).color=m.color):BK m (D.mark r f):=⟨fun x u hu h=>by
 rw[find_mark] at hu
 cases hx:D.find x with
 |none=>rw[hx] at hu;cases hu
 |some v=>
  rw[hx] at hu
  simp only[Option.map_some] at hu
  refine B.col x v hx ?_
  split at hu
  ·cases hu
   rw[←hc]
   exact h
  ·cases hu
   exact h,B.ring,B.scan⟩
theorem BK.touch(B:BK m D)(hr:∀t,D.find r=some t→m r):BK m (D.touch r):=by
 cases ht:D.toucht r with
 |false=>rw[show D.touch r=D by unfold Wd.touch;rw[ht];rfl];exact B
 |true=>
  cases hf:D.find r with
  |none=>unfold Wd.toucht at ht;rw[hf] at ht;cases ht
  |some t=>
   have hm:=hr t hf
   have er:=(find_live hf).2
   have e:D.touch r={D.paint r with ring:=if hasB (ints D.ring) (r-1) then D.ring else D.ring++[(r-1).toNat]}:=by unfold Wd.touch;rw[ht];rfl
   rw[e]
   refine⟨fun x u hu hc=> ?_,fun b hb=> ?_,B.scan⟩
   ·have hu:(D.mark r (fun m=>{m with color:=D.parity})).find x=some u:=hu
    by_cases hxr:x=r
    ·rw[hxr]
     exact hm
    ·rw[find_mark] at hu
     cases hx:D.find x with
     |none=>rw[hx] at hu;cases hu
     |some v=>
      rw[hx] at hu
      simp only[Option.map_some] at hu
      rw[if_neg (fun ha=>hxr (KJ hx ha))] at hu
      cases hu
      exact B.col x _ hx hc
   ·have hb:b∈(if hasB (ints D.ring) (r-1) then D.ring else D.ring++[(r-1).toNat]):=hb
    split at hb
    ·exact B.ring b hb
    ·rw[List.mem_append,List.mem_singleton] at hb
     rcases hb with hb|rfl
     ·exact B.ring b hb
     ·rw[show(((r-1).toNat:Nat):Int)+1=r by omega]
      exact hm
theorem BK.flood(F:FL hold D)(S:San D)(Nm:Nam hold D)(C:Ku D m)(H:∀b:Nat,0<hold b→m ((b:Int)+1))(B:BK m D):BK m D.flood:=by
 unfold Wd.flood
 split
 ·split
  ·split
   ·rename_i b rest hr
    exact⟨B.col,fun c hc=>B.ring c (by rw[hr];exact List.mem_cons_of_mem _ hc),fun _=>B.ring b (by rw[hr];exact List.mem_cons_self ..)⟩
   ·have key:BK m (D.lookT (D.cursor+1) (D.find (D.cursor+1))):=by
     cases hf:D.find (D.cursor+1) with
     |none=>exact B
     |some t=>
      have hs:BK m (D.settle (D.cursor+1)):=B.mark (D.cursor+1) (f:=fun m=>{m with shade:=D.parity,shadow:=D.shd (D.cursor+1)}) (fun _=>rfl)
      unfold Wd.lookT
      simp only
      split
      ·exact B
      ·rename_i hd
       split
       ·rename_i hlt
        refine hs.touch (fun _ _=> ?_)
        obtain⟨htl,er⟩:=find_live hf
        by_cases hc:t.mr.color=D.parity
        ·exact B.col _ t hf hc
        ·have hsum:sumL (D.ph ((t.h:Int)+1)) D.ts=sumL (dP ((t.h:Int)+1)) D.ts:=bT (fun v hv=>by
          show iU D.parity D.cursor D.field _ v=_
          unfold iU nY dP
          rw[if_pos (F.al v hv),List.take_length])
         have hcnt:=Nm.cnt t htl
         have hsv:=F.ho.sh t htl (fun h=>h) (by cases h:t.mr.dead;rfl;exact absurd h hd) hc
         have hsh:=vJ S htl
         rw[er] at hsh
         rw[hsh,hsv,hsum,hcnt] at hlt
         rw[←er]
         exact H t.h (by omega)
       ·exact hs
    exact⟨key.col,key.ring,key.scan⟩
  ·rename_i hs
   unfold Wd.scanAt
   split
   ·exact⟨B.col,B.ring,fun h=>absurd rfl h⟩
   ·rename_i t hf
    split
    ·rename_i hff
     have h0:=F.sf
     have key:=B.touch (r:=nth t.pt D.scanF.toNat) (fun u hu=>C D.scan t (B.scan hs) hf D.scanF.toNat (by omega) (by have:=(find_live hu).2;omega))
     exact⟨key.col,key.ring,key.scan⟩
    ·exact⟨B.col,B.ring,fun h=>absurd rfl h⟩
 ·exact B
structure TQ (N:Nat) (hold:Nat→Nat) (D:Wd):Prop where
 ci:∃s h f,CI N s h f D
 fm:FM hold D
 nam:Nam hold D
 out:Out hold D
 col:∀t,t∈D.ts→t.mr.color=0
 par:D.parity=1
 ring:D.ring=[]
 scan:D.scan=0
theorem Ed:D.tally.ring=D.ring:=by
 unfold Wd.tally
 split
 ·unfold Wd.tallyAt
  split
  ·rfl
  ·split
   ·rfl
   ·split<;>rfl
 ·rfl
theorem GI(h:∀t,t∈D.ts→t.mr.color=0):∀t,t∈D.tally.ts→t.mr.color=0:=by
 unfold Wd.tally
 split
 ·unfold Wd.tallyAt
  split
  ·exact h
  ·split
   ·exact h
   ·split
    ·exact iA (P:=fun t=>t.mr.color=0) (g:=fun t=>{t with mr:={t.mr with shade:=D.parity,shadow:=D.shd _+1}}) (fun t ht=>ht) _ h
    ·exact iA (P:=fun t=>t.mr.color=0) (g:=fun t=>{t with mr:={t.mr with count:=D.parity}}) (fun t ht=>ht) _ h
 ·exact h
theorem TQ.tally(T:TQ N hold D)(hb:D.tallyB=true):TQ N hold D.tally:=by
 obtain⟨s,h,f,I⟩:=T.ci
 have hk:h<N:=by
  have:=I.tb
  rw[hb] at this
  exact of_decide_eq_true this.symm
 obtain⟨h',f',I'⟩:=I.tally hk
 exact⟨⟨_,_,_,I'⟩,T.fm.tally I.san (by rw[I.fi];omega),T.nam.tally I.san,T.out.pt I.san (Pt.tally D),GI T.col,tally_phase.2.trans T.par,Ed.trans T.ring,vQ.trans T.scan⟩
theorem TQ.runN(T:TQ N hold D):∀n,(∀j,j<n→(aC j D).tallyB=true)→TQ N hold (aC n D)∧Pt D (aC n D)
 |0,_=>⟨T,Pt.refl D⟩
 |n+1,h=>by
  obtain⟨h1,h2⟩:=T.runN n (fun j hj=>h j (by omega))
  exact⟨h1.tally (h n (by omega)),h2.trans (Pt.tally (aC n D))⟩
structure FQ (N:Nat) (hold:Nat→Nat) (m:Int→Prop) (D:Wd):Prop where
 san:San D
 fm:FM hold D
 nam:Nam hold D
 out:Out hold D
 ph:D.phase=2
 n:D.n=N
 cu:0≤D.cursor
 hlt:∀t,t∈D.live→t.h<N
 clo:Ku D m
 bk:BK m D
theorem FM.Qk(T:FM hold D)(h:D.phase=2):FL hold D:=by
 rcases T with⟨h1,_⟩|⟨h1,_⟩|⟨_,F⟩
 ·omega
 ·omega
 ·exact F
theorem xN:D.flood.n=D.n∧(D.flood.cursor=D.cursor∨D.flood.cursor=D.cursor+1):=by
 unfold Wd.flood
 split
 ·split
  ·split
   ·exact⟨rfl,.inl rfl⟩
   ·exact⟨(uV _ _).1,.inr rfl⟩
  ·unfold Wd.scanAt
   split
   ·exact⟨rfl,.inl rfl⟩
   ·split
    ·exact⟨(nD _).1,.inl (nD _).2.2⟩
    ·exact⟨rfl,.inl rfl⟩
 ·exact⟨rfl,.inl rfl⟩
theorem FQ.flood(Q:FQ N hold m D)(H:∀b:Nat,0<hold b→m ((b:Int)+1)):FQ N hold m D.flood:=by
 have P:=Pt.flood Q.san
 have hc:=(xN (D:=D)).2
 have:=Q.cu
 refine⟨Q.san.flood,Q.fm.flood Q.san Q.nam Q.cu,Q.nam.flood Q.san,Q.out.pt Q.san P,flood_phase.1.trans Q.ph,xN.1.trans Q.n,by omega,fun t ht=> ?_,Q.clo.pt P,BK.flood (Q.fm.Qk Q.ph) Q.san Q.nam Q.clo H Q.bk⟩
 obtain⟨t',h1,h2⟩:=P.symm.live Q.san.flood ht
 rw[←h2]
 exact Q.hlt t' h1
theorem FQ.runN(Q:FQ N hold m D)(H:∀b:Nat,0<hold b→m ((b:Int)+1)):∀n,FQ N hold m (bg n D)∧Pt D (bg n D)
 |0=>⟨Q,Pt.refl D⟩
 |n+1=>by
  obtain⟨h1,h2⟩:=Q.runN H n
  exact⟨h1.flood H,h2.trans (Pt.flood h1.san)⟩
theorem Ch{φ:Th→Nat}:∀l:List Th,sumL (fun t=>φ t+2) l=sumL φ l+2*(liveL l).length
 |[]=>rfl
 |u::l=>by
  rw[sumL_cons,sumL_cons,live_cons,Ch l]
  cases u.ended<;>simp<;>omega
theorem heads_le{l:List Th}(hn:(l.map Th.h).Nodup)(h:∀t,t∈l→t.h<N):l.length≤N:=by
 have:=mY N (l.map (fun t=>(t.h:Int)+1)) (by
  unfold List.Nodup at hn ⊢
  rw[List.pairwise_map] at hn ⊢
  exact hn.imp (fun h e=>h (by omega))) (fun x hx=>by
  obtain⟨t,ht,rfl⟩:=List.mem_map.1 hx
  have:=h t ht
  omega)
 simpa using this
theorem TQ.Po(T:TQ N hold D):pot (D.begin 2)≤18*N:=by
 obtain⟨s,h,f,I⟩:=T.ci
 have h1:sumL (whiteT (D.begin 2).parity) D.ts≤sumL (fun t=>t.pt.length+2) D.ts:=sumL_le (fun t ht=>by unfold whiteT;split<;>omega)
 rw[Ch] at h1
 have h2:(liveL D.ts).length≤N:=heads_le (l:=D.live) I.san.nd I.hlt
 have h3:=I.bd
 have h4:pot (D.begin 2)=((D.n:Int)-0).toNat+(sumL (whiteT (D.begin 2).parity) D.ts+gH (D.begin 2) D.ring)+0:=rfl
 have h5:gH (D.begin 2) []=0:=rfl
 rw[h4,T.ring,h5,I.n]
 omega
theorem TQ.fin(T:TQ N hold D){m n:Nat}(hm:∀j,j<m→(aC j D).tallyB=true)(hmb:(aC m D).tallyB=false)(hnb:(bg n ((aC m D).begin 2)).floodB=false)(hpot:n+pot (bg n ((aC m D).begin 2))≤pot ((aC m D).begin 2)){mk:Int→Prop}(M:MkR D fl mk)(hf1:∀x,x∈fl→∃b:Nat,x=(b:Int)+1∧0<hold b)(hf2:∀b:Nat,0<hold b→(b:Int)+1∈fl):
  n≤18*N∧(bg n ((aC m D).begin 2)).ring=[]∧Pt D (bg n ((aC m D).begin 2))∧∀x t,(bg n ((aC m D).begin 2)).find x=some t→t.mr.dead=false→(t.mr.color=(bg n ((aC m D).begin 2)).parity↔mk x):=by
 obtain⟨T2,P2⟩:=T.runN m hm
 have hp18:=T2.Po
 generalize hD2:aC m D=D2 at*
 obtain⟨s,h,f,I⟩:=T2.ci
 have H:∀b:Nat,0<hold b→mk ((b:Int)+1):=fun b hb=>M.1 _ (hf2 b hb)
 have Q0:FQ N hold mk (D2.begin 2):=⟨I.san.same_but rfl rfl rfl rfl (fun b hb=>.inl hb),T2.fm.begin2 I.ph I.n hmb I.hlt,T2.nam.ts rfl,T2.out,rfl,I.n,Int.le_refl _,I.hlt,M.2.1.pt (P2.trans (Pt.ts rfl)),⟨fun x t hf hc=>by
  have h1:=T2.col t (iR hf)
  have h2:t.mr.color=D2.parity:=hc
  have h3:=T2.par
  omega,fun b hb=>by
  have hb:b∈D2.ring:=hb
  rw[T2.ring] at hb
  exact absurd hb (List.not_mem_nil),fun h=>absurd rfl h⟩⟩
 obtain⟨Q,P3⟩:=Q0.runN H n
 have P:Pt D (bg n (D2.begin 2)):=(P2.trans (Pt.ts (D':=D2.begin 2) rfl)).trans P3
 generalize bg n (D2.begin 2)=De at*
 have hend:=hnb
 unfold Wd.floodB at hend
 rw[decide_eq_true Q.ph] at hend
 simp at hend
 refine⟨by omega,hend.1.2,P,fun x t hf hd=>⟨fun hc=>Q.bk.col x t hf hc,fun hx=> ?_⟩⟩
 obtain⟨t2,h1,h2,h3⟩:=alb_of Q.san Q.nam Q.fm Q.out Q.ph Q.n hnb Q.hlt mk (M.pt P) hf1 x hx
 rw[hf] at h1
 cases h1
 exact h3
end
theorem Oj{D:Wd}(h:D.phase=0)(r:Int):D.touch r=D:=by
 have:D.toucht r=false:=by
  unfold Wd.toucht
  rw[h]
  split<;>simp
 unfold Wd.touch
 rw[this]
 rfl
theorem Ph{D:Wd}(h:D.phase=0)(r:Int):D.more r=D.up r:=by
 unfold Wd.more
 exact Oj (D:=D.up r) h r
def Ig(D:Wd):Prop:=Dyed D∧(∀t,t∈D.ts→t.mr.color=0∧t.mr.shadow=0)∧D.phase=0∧D.ring=[]
structure FB (N:Nat) (L:List Int) (hold:Nat→Nat) (k:Nat) (D:Wd):Prop where
 fin:oW L D
 nam:Nam hold D
 out:Out hold D
 col:∀t,t∈D.ts→t.mr.color=0
 ph:D.phase=0
 ring:D.ring=[]
 pi:PInv (dF N) k D
section
variable {D D':Wd} {t u:Th} {r x y:Int} {hold:Nat→Nat} {L:List Int} {N k:Nat}
theorem Ig.new(n w:Nat):Ig (Wd.new n w):=⟨Dyed.new _ _,fun t ht=>by simp[Wd.new] at ht,rfl,rfl⟩
theorem Ig.tie(h:Ig D)(r:Int)(i:Nat)(x:Int):Ig ((D.setP r i x).up x):=
 ⟨h.1.tie r i x,iA (P:=fun t=>t.mr.color=0∧t.mr.shadow=0) (g:=fun t=>{t with mr:={t.mr with refs:=t.mr.refs+1}}) (fun t ht=>ht) x (iA (P:=fun t=>t.mr.color=0∧t.mr.shadow=0) (g:=fun t=>{t with pt:=t.pt.set i x}) (fun t ht=>ht) r h.2.1),h.2.2⟩
theorem Ig.grow(h:Ig D)(x y:Int):Ig (D.grow x y):=by
 refine⟨h.1.grow x y,?_,?_⟩
 ·unfold Wd.grow
  split
  ·rename_i hE
   refine iA (P:=fun t=>t.mr.color=0∧t.mr.shadow=0) (g:=fun t=>{t with mr:={t.mr with color:=(D.mkD x y).parity,count:=(D.mkD x y).parity,shade:=(D.mkD x y).parity,shadow:=0}}) (fun t _=>⟨(h.1.mkD x y).1,rfl⟩) (D.mkR x y) ?_
   unfold Wd.mkD
   rw[if_pos hE]
   intro t ht
   rcases List.mem_append.1 (show t∈D.ts++[_] from ht) with ht|ht
   ·exact h.2.1 t ht
   ·obtain rfl:=List.mem_singleton.1 ht
    exact⟨rfl,rfl⟩
  ·exact h.2.1
 ·unfold Wd.grow
  split
  ·rename_i hE
   have e:(D.mkD x y).phase=D.phase∧(D.mkD x y).ring=D.ring:=by
    unfold Wd.mkD
    rw[if_pos hE]
    exact⟨rfl,rfl⟩
   exact⟨e.1.trans h.2.2.1,e.2.trans h.2.2.2⟩
  ·exact h.2.2
theorem FB.of{k0:Nat}(G:mE N D k0)(h:Ig D)(hk:k0≤k)(hl:D.dm.length≤k):FB N D.dm (fun _=>0) k D:=
 ⟨G.PV h.1,G.nam,fun _ _=>rfl,fun t ht=>(h.2.1 t ht).1,h.2.2.1,h.2.2.2,G.san,fun q t hf=>by
  obtain⟨htl,e⟩:=find_live hf
  have h1:=G.nam.cnt t htl
  have h2:=G.bd ((t.h:Int)+1) (by omega)
  have h3:=(h.2.1 t (bZ.1 htl).1).2
  rw[h1,h3]
  omega,by unfold Wd.dm at hl;simpa using hl,fun b hb=>by
  obtain⟨t,ht,rfl⟩:=List.mem_map.1 hb
  exact G.lt t ht⟩
theorem FB.held(F:FB N L hold k D)(hf:D.find r=some t)(hd:t.mr.dead=false):∃hold',FB N L hold' (k+1) (D.more r):=by
 obtain⟨htl,er⟩:=find_live hf
 have em:(D.more r).ts.map Th.h=D.ts.map Th.h:=more_hd r
 have hb:=F.pi.bd.more r
 rw[Ph F.ph] at em hb ⊢
 have S:=F.fin.san.up r
 refine⟨fun h=>hold h+if(h:Int)+1=r then 1 else 0,⟨S,by rw[em];exact F.fin.nd,(nR em).trans F.fin.refs,F.fin.dy.mark r (f:=fun m=>{m with refs:=m.refs+1}) (fun m hm=>hm),fun s hs=> ?_⟩,F.nam.Qe F.fin.san hf hd (fun h=>rfl),fun b hn=> ?_,iA (P:=fun t=>t.mr.color=0) (g:=fun t=>{t with mr:={t.mr with refs:=t.mr.refs+1}}) (fun t ht=>ht) r F.col,F.ph,F.ring,F.pi.to S hb em⟩
 ·rcases wB (g:=fun t=>{t with mr:={t.mr with refs:=t.mr.refs+1}}) hs with hs|⟨u,hu,rfl⟩
  ·exact F.fin.fl s hs
  ·exact F.fin.fl u (iR hu)
 ·have h1:∀t,t∈D.live→t.h≠b:=fun t ht e=>by
   obtain⟨s,k1,k2⟩:=az (MQ (D:=D) r) ht
   exact hn s k1 (k2.trans e)
  show hold b+(if(b:Int)+1=r then 1 else 0)=0
  rw[F.out b h1,if_neg (fun e=>h1 t htl (by omega))]
theorem FB.up(F:FB N L hold k D):FB N L hold (k+1) D:=⟨F.fin,F.nam,F.out,F.col,F.ph,F.ring,F.pi.up⟩
theorem FB.inter(F:FB N L hold k D)(r:Int):FB N L hold k (D.inter r):=by
 refine⟨F.fin.inter r,F.nam.inter F.fin.san r,fun b hb=>F.out b (fun t ht e=> ?_),?_,?_,?_,F.fin.san.inter r,F.pi.bd.inter r,by rw[kH];exact F.pi.hd⟩
 ·obtain⟨s,k1,k2⟩:=az (uL (D:=D) r) ht
  exact hb s k1 (k2.trans e)
 ·exact(iZ.inter (D:=D) ⟨F.fin.dy,F.col⟩ r).2
 ·unfold Wd.inter Wd.bury
  split
  ·split
   ·exact F.ph
   ·split
    ·exact F.ph
    ·exact F.ph
  ·exact F.ph
 ·unfold Wd.inter Wd.bury
  split
  ·split
   ·exact F.ring
   ·split
    ·exact F.ring
    ·show(D.ring.filter _)=[]
     rw[F.ring]
     rfl
  ·exact F.ring
theorem FB.tq{w wr:World}{p:Pl}(F:FB N L hold k D)(h:RSt w p (dF N) D wr):TQ N hold (D.turn.begin 1):=
 ⟨⟨_,_,_,F.fin.ci h⟩,FM.begin1 (.idle F.ph ⟨F.fin.dy,F.col⟩) F.ph,F.nam.ts rfl,F.out,F.col,by show 1-D.parity=1;rw[F.fin.dy.1];rfl,F.ring,rfl⟩
end
structure PK (w:World) (p:Pl) (c:Cf) (D:Wd) (P:World→Prop):Prop where
 st:∀a,P a→RSt w p c D a
 lat:∀a b,Below a.heap.size a b→P a→P b
 tou:∀a b,P a→RSt w p c D b→Touch (inG p) a b→P b
def uf{w:World}{p:Pl}{c:Cf}{D:Wd}{P:World→Prop}(K:PK w p c D P):TX.Rel where
 r a b:=P a→P b
 refl _ h:=h
 trans h k x:=k (h x)
 below hb h:=K.lat _ _ hb h
theorem fT{w wr w':World}{p:Pl}{c:Cf}{D:Wd}{P:World→Prop}{f:FuncId}{args:List Value}{B:Nat}{v:Value}(K:PK w p c D P)(hd:Does c D f args B D v)(h:P wr)(hC:(uf K).r wr w'):
  Calls Tryz.prog f (List.toArray (.pointer (some ⟨p.a,0,none⟩)::args)) w' fun e w''=>e=.returned v∧(uf K).r w' w'':=
 ((K.st _ (hC h)).does hd).mono fun e w'' ⟨e1,e2,hT⟩=>⟨e1,fun h=>K.tou _ _ h e2 hT⟩
def wH(D:Wd)(x:Int):Prop:=∃t,D.find x=some t∧t.mr.dead=false∧((sumL (dP x) D.ts:Nat):Int)<t.mr.refs
def sV(D:Wd)(L:List Int)(k:Nat)(i:Nat):Nat:=oP (Kw (dP (i:Int)) D) L k
def PT(w:World)(p:Pl)(c:Cf)(D:Wd)(L:List Int)(ws:World)(e:Ending)(w':World):Prop:=
 ∃a cap fl,e=.returned (.slice a (List.length fl) cap)∧Row w' .i64 a fl∧fl.length≤L.length∧(∀x,x∈fl→wH D x)∧(∀x,x∈L→wH D x→x∈fl)∧RSt w p c D w'∧Touch (inG p) ws w'
structure OS (w:World) (p:Pl) (N:Nat) (D:Wd) (L:List Int) (ws w5:World) (q k:Nat) (v:Value) (l:List Int) (wr:World):Prop where
 st:RSt w p (dF N) D wr
 tc:Touch (inG p) ws wr
 nm:Blk wr q (arrV (fun i=>.int .i64 ((sV D L L.length i:Nat):Int)) (N+1)) 3
 nq:¬ofG p q
 ng:∀i,w5.heap.size≤i→¬ofG p i
 s5:ws.heap.size≤w5.heap.size
 td:wr.ownsRow w5.heap.size 3 1 v l.length (l.map (Value.int .i64))
 q5:q<w5.heap.size
 len:l.length≤k
 mem:∀x,x∈l→wH D x
 all:∀j,j<k→wH D (nth L j)→nth L j∈l
 sz:w5.heap.size≤wr.heap.size
section
variable {w wr ws w5 w' w3:World} {p:Pl} {N q k:Nat} {D:Wd} {L l:List Int} {v v':Value} {t:Th} {x:Int} {hold:Nat→Nat}
theorem OS.pk:PK w p (dF N) D (OS w p N D L ws w5 q k v l):=
 ⟨fun a h=>h.st,fun a b hb h=>⟨h.st.later hb,h.tc.trans (Touch.of_below hb),h.nm.later hb,h.nq,h.ng,h.s5,df h.td hb,h.q5,h.len,h.mem,h.all,Nat.le_trans h.sz hb.size⟩,fun a b h hs hT=>⟨hs,h.tc.trans hT,h.nm.touch hT (fun hx=>h.nq (Or.inr hx)),h.nq,h.ng,h.s5,bA h.td hT (fun g hg hx=>h.ng g (owns_block h.td g hg) (Or.inr hx)),h.q5,h.len,h.mem,h.all,Nat.le_trans h.sz hT.size⟩⟩
theorem OS.Qo(_:OS w p N D L ws w5 q k v l wr):PK w p (dF N) D (OS w p N D L ws w5 q k v l):=OS.pk
theorem OS.next(h:OS w p N D L ws w5 q k v l wr)(hn:¬wH D (nth L k)):OS w p N D L ws w5 q (k+1) v l wr:=
 ⟨h.st,h.tc,h.nm,h.nq,h.ng,h.s5,h.td,h.q5,Nat.le_succ_of_le h.len,h.mem,fun j hj ho=>by
  by_cases e:j=k
  ·exact absurd (e▸ho) hn
  ·exact h.all j (by omega) ho,h.sz⟩
theorem OS.push(h:OS w p N D L ws w5 q k v l wr)(hx:x=nth L k)(hc:wH D x)(hw:w.heap.size≤w5.heap.size)(ho:w3.ownsRow w5.heap.size 3 1 v' (l.length+1) (l.map (Value.int .i64)++[.int .i64 x]))(hg:(wr.alloc (.cells #[.int .i64 x] 3)).grownBy w3 v.ownBlock):OS w p N D L ws w5 q (k+1) v' (l++[x]) w3:=by
 have hq2:=owns_block h.td
 have hb:=below_new wr (.cells #[.int .i64 x] 3)
 have T0:Touch (fun b=>v.ownBlock=some b) wr w3:=(Touch.of_below hb).trans (mk_grown_touch hg)
 refine⟨h.st.touch T0 (fun i hi e=>h.ng i (hq2 i e) hi) (fun i e=>Nat.le_trans hw (hq2 i e)),?_,h.nm.touch T0 (fun e=>by have:=hq2 q e;have:=h.q5;omega),h.nq,h.ng,h.s5,by rw[List.length_append,List.map_append];exact ho,h.q5,by rw[List.length_append];have:=h.len;simp;omega,fun y hy=> ?_,fun j hj hc2=> ?_,Nat.le_trans h.sz T0.size⟩
 ·exact⟨T0.os.trans h.tc.os,T0.tape.trans h.tc.tape,T0.output.trans h.tc.output,Nat.le_trans h.tc.size T0.size,fun b hb hx=>(T0.block b (Nat.lt_of_lt_of_le hb h.tc.size) (fun e=>by have:=hq2 b e;have:=h.s5;omega)).trans (h.tc.block b hb hx)⟩
 ·rw[List.mem_append,List.mem_singleton] at hy
  rcases hy with hy|rfl
  ·exact h.mem y hy
  ·exact hc
 ·rw[List.mem_append,List.mem_singleton]
  by_cases e:j=k
  ·exact .inr (e▸hx.symm)
  ·exact .inl (h.all j (by omega) hc2)
theorem Nv(F:oW L D){k:Nat}(hk:k≤L.length)(i:Nat):sV D L k i≤sumL (dP (i:Int)) D.ts:=by
 have h1:=Mg (Kw (dP (i:Int)) D) L hk
 have h2:=vL F.nd (dP (i:Int))
 rw[F.refs] at h2
 unfold sV
 omega
theorem LB(F:oW L D)(i:Nat):sV D L L.length i=sumL (dP (i:Int)) D.ts:=by
 have h2:=vL F.nd (dP (i:Int))
 rw[F.refs] at h2
 exact h2
theorem Jv(hk:k<L.length)(hf:D.find (nth L k)=some t)(i:Nat):sV D L (k+1) i=sV D L k i+bB (i:Int) t.pt:=by
 unfold sV
 rw[yw _ hk]
 unfold Kw
 rw[hf]
 rfl
theorem ol(q:Int):∀(l:List Int) (f:Nat),bB q (l.take f)≤bB q l
 |[],f=>by simp
 |a::l,0=>by simp[bB]
 |a::l,f+1=>by
  have:=ol q l f
  simp only[List.take_succ_cons,bB]
  omega
theorem Bc(n:Nat)(hn:n≤2000)(w:World):(Instr.makeSlice 30 (.int .i64 (n:Int)) (.int .i64 (n:Int))).run Tryz.prog w=.ok (.slice (some ⟨w.heap.size,0,none⟩) n n) (w.alloc (.cells (arrV (fun _=>.int .i64 0) n) 3)):=by
 obtain⟨i0,hi,hz0,hz1,hz2⟩:=info_parts infoInt
 have:=run_make w 30 3 i0 (.int .i64 0) Tryz.underlying30 hi hz0 .i64 .i64 (n:Int) (n:Int) (by omega) (Int.le_refl _) (by rw[hz2];omega) (by omega)
 rw[this,hz1,←made_arr _ rfl]
 simp
end
set_option maxHeartbeats 4000000 in
theorem wR{w ws:World}{p:Pl}{N:Nat}{D:Wd}{L:List Int}{hold:Nat→Nat}(h:RSt w p (dF N) D ws)(F:oW L D)(Nm:Nam hold D)(hN:N≤1000)(a9:Option Addr)(c9:Nat)(hr:Row ws .i64 a9 L)(hX:fw (inG p) a9 L)(hL:L.length≤30):
  Calls Tryz.prog 21 #[.pointer (some ⟨p.a,0,none⟩),.slice a9 L.length c9] ws (PT w p (dF N) D L ws):=by
 obtain⟨i0,hinf,hz0,hz1,hz2⟩:=info_parts infoInt
 have hfc:=dR (N:Int) 16 1 1
 have HS0:=hid h
 have HR:=hid hr
 have HX:=hid hX
 have HF:=hid F
 have HNm:=hid Nm
 have HNB:=hid (fun y=>h.Pi F.san y)
 have hNN:=hN
 clear h hr hX F Nm
 go_enter Tryz.func21,Tryz.ntmps21
 go_wp2_with fail
 refine HS0.out.conf.mono ?_
 rintro e w1 ⟨rfl,hb⟩
 have HB1:=hid hb
 clear hb
 have hmk:=Bc (N+1) (by omega) w1
 rw[show((N+1:Nat):Int)=(N:Int)+1 by omega] at hmk
 have hw1:IntKind.i64.wrap ((N:Int)+1)=(N:Int)+1:=IntWalk.i64_in _ (by omega)
 go_wp2_with fail
 have HR0:Hid (Below ws.heap.size ws (w1.alloc (.cells (arrV (fun _=>.int .i64 0) (N+1)) 3))∧Blk (w1.alloc (.cells (arrV (fun _=>.int .i64 0) (N+1)) 3)) w1.heap.size (arrV (fun i=>.int .i64 ((sV D L 0 i:Nat):Int)) (N+1)) 3):=hid ⟨below_step HB1.out (below_new _ _),by
  have e:(fun i:Nat=>Value.int .i64 ((sV D L 0 i:Nat):Int))=fun _=>.int .i64 0:=funext (fun i=>by unfold sV;rw[GA];rfl)
  rw[e]
  exact Blk.new _ _ _⟩
 have HNq:Hid (¬ofG p w1.heap.size∧ws.heap.size≤w1.heap.size):=hid ⟨HS0.out.notG HB1.out.size,HB1.out.size⟩
 generalize w1.alloc (.cells (arrV (fun _=>.int .i64 0) (N+1)) 3)=w2 at*
 generalize w1.heap.size=q at*
 clear hmk HB1 hfc hw1
 go_loopw [22] (fun i wr=>∃k:Nat,k≤L.length∧i=.int .i64 (k:Int)∧Below ws.heap.size ws wr∧Blk wr q (arrV (fun i=>.int .i64 ((sV D L k i:Nat):Int)) (N+1)) 3) (fun i _=>L.length-(intOf i).toNat)
 case atStart=>exact⟨0,Nat.zero_le _,rfl,HR0.out.1,HR0.out.2⟩
 case round=>
  obtain⟨k,hk,rfl,hb,hq⟩:=hrel
  have HB:=hid hb
  have HQ:=hid hq
  by_cases hlt:k<L.length
  ·obtain⟨b9,o9,rfl,hb9,hc9⟩:=(HR.out.below hb (Nat.le_refl _)) k hlt
   obtain⟨t,hf⟩:=HF.out.find hlt
   have HFd:=hid hf
   have HSu:=hid (fun i=>Jv hlt hf i)
   have HLe:=hid (fun i=>Nv HF.out (show k+1≤L.length by omega) i)
   have HSe:=hid (EK HF.out.san hf (HS0.out.later hb))
   have hpl:=(HS0.out.sizes) t (find_live hf).1
   generalize nth L k=r at*
   clear hb hq hf
   go_wp2_with fail
   refine HSe.out.mono ?_
   rintro e w4 ⟨a1,c1,a2,n2,c2,rfl,r1,f1,hb4⟩
   have hbx:=Blk.new w4 #[.slice a1 t.pt.length c1,.slice a2 n2 c2] 76
   have q0:=hbx.cell 0 rfl
   have q1:=hbx.cell 1 rfl
   have hb5:=below_step hb4 (below_new w4 (.cells #[.slice a1 t.pt.length c1,.slice a2 n2 c2] 76))
   have HRp:=hid (r1.later (below_new w4 (.cells #[.slice a1 t.pt.length c1,.slice a2 n2 c2] 76)))
   have HF1:Hid (∀b off,a1=some ⟨b,off,none⟩→b≠q):=hid (fun b off e=>by
    have h1:=f1 b off e
    have h2:=HQ.out.lt
    omega)
   have HB5:=hid (below_step HB.out hb5)
   have HQ5:Hid (Blk (w4.alloc (.cells #[.slice a1 t.pt.length c1,.slice a2 n2 c2] 76)) q (arrV (fun i=>.int .i64 ((sV D L k i+bB (i:Int) (t.pt.take 0):Nat):Int)) (N+1)) 3):=hid (HQ.out.later hb5)
   have hz1:w4.heap.size<(w4.alloc (.cells #[.slice a1 t.pt.length c1,.slice a2 n2 c2] 76)).heap.size:=by simp
   clear hb4 hbx r1 f1 hb5
   go_wp2_with fail
   generalize hw5:w4.alloc _=w5 at*
   clear hw5 q0 q1
   go_loopw [36] (fun i wr=>∃j:Nat,j≤t.pt.length∧i=.int .i64 (j:Int)∧Below ws.heap.size ws wr∧Row wr .i64 a1 t.pt∧Blk wr q (arrV (fun i=>.int .i64 ((sV D L k i+bB (i:Int) (t.pt.take j):Nat):Int)) (N+1)) 3) (fun i _=>t.pt.length-(intOf i).toNat)
   case atStart=>exact⟨0,Nat.zero_le _,rfl,HB5.out,HRp.out,HQ5.out⟩
   case round=>
    obtain⟨j,hj,rfl,hb,hrw,hq⟩:=hrel
    have HB6:=hid hb
    have HRw:=hid hrw
    have HQ6:=hid hq
    by_cases hlt2:j<t.pt.length
    ·obtain⟨bp,op,rfl,hbp,hcp⟩:=hrw j hlt2
     obtain⟨y,hy,hyN⟩:∃y:Nat,nth t.pt j=(y:Int)∧y<N+1:=by
      rcases HNm.out.good t (find_live HFd.out).1 j hlt2 with h0|⟨u,hu,hue⟩
      ·exact⟨0,h0,by omega⟩
      ·obtain⟨y,hy,hy1,hyN⟩:=RSt.BI HS0.out (HF.out.san.findIt hu)
       exact⟨y,hue.symm.trans hy,by have:(dF N).N=N:=rfl;omega⟩
     rw[hy] at hcp
     have ci:=hq.arr hyN
     have fi:=hq.free y
     have hqz:=hq.lt
     have hct:∀i:Nat,bB (i:Int) (t.pt.take (j+1))=bB (i:Int) (t.pt.take j)+if i=y then 1 else 0:=fun i=>by
      rw[nI (i:Int) t.pt hlt2,hy]
      congr 1
      by_cases e:i=y
      ·rw[if_pos e,if_pos (by omega)]
      ·rw[if_neg e,if_neg (by omega)]
     have hbd:sV D L k y+bB (y:Int) (t.pt.take j)+1≤100000*1000:=by
      have h1:=HSu.out y
      have h2:=HLe.out y
      have h3:=ol (y:Int) t.pt (j+1)
      have h4:=hct y
      rw[if_pos rfl] at h4
      have h5:=HNB.out (y:Int)
      have h6:100000*(dF N).N≤100000*1000:=Nat.mul_le_mul_left _ hNN
      omega
     have HQ7:Hid (Blk (wr.setCell ⟨q,y,none⟩ (.int .i64 ((sV D L k y+bB (y:Int) (t.pt.take j)+1:Nat):Int))) q (arrV (fun i=>.int .i64 ((sV D L k i+bB (i:Int) (t.pt.take (j+1)):Nat):Int)) (N+1)) 3):=hid (by
      have h1:=hq.set y (.int .i64 ((sV D L k y+bB (y:Int) (t.pt.take j)+1:Nat):Int))
      rw[arrV_set] at h1
      rw[arrV_congr (g:=fun i=>if i=y then Value.int .i64 ((sV D L k y+bB (y:Int) (t.pt.take j)+1:Nat):Int) else .int .i64 ((sV D L k i+bB (i:Int) (t.pt.take j):Nat):Int)) (fun i _=>by
       rw[hct i]
       by_cases e:i=y
       ·rw[if_pos e,if_pos e,e]
        rfl
       ·rw[if_neg e,if_neg e]
        rfl)]
      exact h1)
     have HB7:=hid (hb.setCell (p:=⟨q,y,none⟩) HNq.out.2 (.int .i64 ((sV D L k y+bB (y:Int) (t.pt.take j)+1:Nat):Int)))
     have HRw7:Hid (Row (wr.setCell ⟨q,y,none⟩ (.int .i64 ((sV D L k y+bB (y:Int) (t.pt.take j)+1:Nat):Int))) .i64 (some ⟨bp,op,none⟩) t.pt):=hid (hrw.touch ((Touch.refl (fun b=>b=q) wr).setCell (p:=⟨q,y,none⟩) (fun _=>rfl) _) (fun _ b off e hx=>HF1.out b off e hx))
     clear hb hrw hq hy hct
     obtain⟨M,hM⟩:∃M:Nat,M=sV D L k y+bB (y:Int) (t.pt.take j):=⟨_,rfl⟩
     rw[←hM] at ci hbd HQ7 HB7 HRw7
     rw[show((M+1:Nat):Int)=(M:Int)+1 by omega] at HQ7 HB7 HRw7
     have hwM:IntKind.i64.wrap ((M:Int)+1)=(M:Int)+1:=IntWalk.i64_in _ (by omega)
     clear hM hbd
     go_wp2_with fail
     go_roundw
     case rel=>exact⟨j+1,by omega,by go_num,HB7.out,HRw7.out,HQ7.out⟩
     case measure=>simp[intOf];omega
    ·obtain rfl:j=t.pt.length:=by omega
     have HQ7:Hid (Blk wr q (arrV (fun i=>.int .i64 ((sV D L (k+1) i:Nat):Int)) (N+1)) 3):=hid (by
      rw[arrV_congr (g:=fun i=>.int .i64 ((sV D L k i+bB (i:Int) (t.pt.take t.pt.length):Nat):Int)) (fun i _=>by rw[HSu.out i,List.take_length])]
      exact hq)
     clear hb hrw hq
     go_wp2_with fail
     go_roundw
     case rel=>exact⟨k+1,by omega,by go_num,HB6.out,HQ7.out⟩
     case measure=>simp[intOf];omega
  ·obtain rfl:k=L.length:=by omega
   have HO0:Hid (OS w p N D L ws wr q 0 (.slice none 0 0) [] wr):=hid ⟨HS0.out.later hb,Touch.of_below hb,hq,HNq.out.1,fun i hi=>HS0.out.notG (Nat.le_trans hb.size hi),hb.size,World.ownsRow_nil _ _ _ _,hq.lt,Nat.le_refl _,fun x hx=>absurd hx (List.not_mem_nil),fun j hj=>by omega,Nat.le_refl _⟩
   have HW5:Hid (w.heap.size≤wr.heap.size):=hid (Nat.le_trans HS0.out.below.size hb.size)
   clear hb hq
   generalize hw5:wr=w5 at*
   clear hw5
   go_wp2_with fail
   go_loopw [12,50] (fun tv i wr=>∃(k:Nat) (l:List Int),k≤L.length∧i=.int .i64 (k:Int)∧OS w p N D L ws w5 q k tv l wr) (fun _ i _=>L.length-(intOf i).toNat)
   case atStart=>exact⟨0,[],Nat.zero_le _,rfl,HO0.out⟩
   case round=>
    obtain⟨k,l,hk,rfl,hO⟩:=hrel
    have HO:=hid hO
    have hll:=hO.len
    by_cases hlt:k<L.length
    ·obtain⟨b9,o9,rfl,hb9,hc9⟩:=(HR.out.touch hO.tc HX.out) k hlt
     obtain⟨t,hf⟩:=HF.out.find hlt
     obtain⟨J,hJ,hJ1,hJN⟩:=RSt.BI HS0.out hf
     have hJN:J≤N:=hJN
     have h64:In64 (nth L k):=by rw[hJ];unfold In64;omega
     have hdd:D.dead (nth L k)=t.mr.dead:=by unfold Wd.dead;rw[hf]
     have HI:=hid ((gd_is (c:=dF N) (D:=D) h64).as (vb (show(D.find (nth L k)).isSome=true by rw[hf];rfl)) rfl)
     have KP:=hid hO.Qo
     have HJk:=hid hJ
     cases hd:t.mr.dead with
     |true=>
      have HD:=hid ((tintFns.dead (dF N) D (nth L k) h64).as (vb (hdd.trans hd)) rfl)
      have HNo:Hid (¬wH D (nth L k)):=hid (fun⟨t2,h1,h2,_⟩=>by
       rw[hf] at h1
       cases h1
       rw[hd] at h2
       cases h2)
      rw[hJ] at HI HD hc9
      clear hO hdd hf hd h64 hJ
      go_wp2_with fail
      refine TX.aT (T:=uf KP.out) [TX.ai.is (.pointer (some ⟨p.a,0,none⟩)),TX.ai.is (.int .i64 (J:Int)),TX.ai.is (.bool true),TX.ai.is (.bool true),TX.ai.is (.pointer (some ⟨p.a,0,none⟩)),TX.ai.is (.int .i64 (J:Int)),TX.ai.is (.bool true),TX.ai.is (.bool false),TX.ai.is (.bool false),TX.ai.is (.bool false),TX.ai.is undef,TX.ai.is undef,TX.ai.is undef,TX.ai.is undef,TX.ai.is undef,TX.ai.is undef,TX.ai.is undef,TX.ai.is undef,TX.ai.is (.bool false)] (by kernel_rfl) (by kernel_rfl) rfl (by kernel_rfl) (fun ops K2 hops hK=> ?_)
      refine TX.aa (TX.af rfl) (fun w' hC hd=>TX.aj _ (.inl rfl) rfl) (by go_frame;rfl) (by simp only[List.nil_append,List.cons_append];rfl) ?_
      refine TX.aa (TX.af rfl) (fun w' hC hd=>TX.aj _ (.inl rfl) rfl) (by go_frame;rfl) (by simp only[List.nil_append,List.cons_append];rfl) ?_
      refine TX.aa (TX.af rfl) (fun w' hC hd=>TX.bD 54 (.pointer (some ⟨p.a,0,none⟩)) 55 (.int .i64 (J:Int)) rfl rfl (fun ρ hρ hf e0 e1=>TX.aW (f:=15) (by go_simp) (fT KP.out HI.out HO.out hC))) (by go_frame;rfl) (by simp only[List.nil_append,List.cons_append];rfl) ?_
      refine TX.aa (TX.af rfl) (fun w' hC hd=>TX.aj _ (.inl rfl) rfl) (by go_frame;rfl) (by simp only[List.nil_append,List.cons_append];rfl) ?_
      refine TX.aa (TX.aG hops rfl rfl rfl rfl) (fun w' hC hd=>TX.aj _ (.inl rfl) rfl) (by go_frame;rfl) (by simp only[List.nil_append,List.cons_append];rfl) ?_
      refine TX.aa (TX.aG hops rfl rfl rfl rfl) (fun w' hC hd=>TX.aj _ (.inl rfl) rfl) (by go_frame;rfl) (by simp only[List.nil_append,List.cons_append];rfl) ?_
      refine TX.aa (TX.aG hops rfl rfl rfl rfl) (fun w' hC hd=>TX.bD 58 (.pointer (some ⟨p.a,0,none⟩)) 59 (.int .i64 (J:Int)) rfl rfl (fun ρ hρ hf e0 e1=>TX.aW (f:=16) (by go_simp) (fT KP.out HD.out HO.out hC))) (by go_frame;rfl) (by simp only[List.nil_append,List.cons_append];rfl) ?_
      refine TX.aa (TX.aG hops rfl rfl rfl rfl) (fun w' hC hd=>TX.aD 60 (.bool true) rfl (fun ρ hρ hf e0=>TX.ay (by go_simp))) (by go_frame;rfl) (by simp only[List.nil_append,List.cons_append];rfl) ?_
      refine TX.aa (TX.af rfl) (fun w' hC hd=>TX.fu _ _ _ true rfl rfl rfl) (by go_frame;rfl) (by simp only[List.nil_append,List.cons_append];rfl) ?_
      refine TX.aa (TX.af rfl) (fun w' hC hd=>TX.aj _ (.inl rfl) rfl) (by go_frame;rfl) (by simp only[List.nil_append,List.cons_append];rfl) ?_
      refine TX.bf (TX.dI hops rfl rfl rfl rfl) (by go_frame;rfl) (by simp only[List.nil_append,List.cons_append];rfl) ?_
      refine TX.bf (TX.dI hops rfl rfl rfl rfl) (by go_frame;rfl) (by simp only[List.nil_append,List.cons_append];rfl) ?_
      refine TX.bf (TX.dI hops rfl rfl rfl rfl) (by go_frame;rfl) (by simp only[List.nil_append,List.cons_append];rfl) ?_
      refine TX.bf (TX.dI hops rfl rfl rfl rfl) (by go_frame;rfl) (by simp only[List.nil_append,List.cons_append];rfl) ?_
      refine TX.bf (TX.dI hops rfl rfl rfl rfl) (by go_frame;rfl) (by simp only[List.nil_append,List.cons_append];rfl) ?_
      refine TX.bf (TX.dI hops rfl rfl rfl rfl) (by go_frame;rfl) (by simp only[List.nil_append,List.cons_append];rfl) ?_
      refine TX.bf (TX.dI hops rfl rfl rfl rfl) (by go_frame;rfl) (by simp only[List.nil_append,List.cons_append];rfl) ?_
      refine TX.bf (TX.dI hops rfl rfl rfl rfl) (by go_frame;rfl) (by simp only[List.nil_append,List.cons_append];rfl) ?_
      refine TX.aa (TX.af rfl) (fun w' hC hd=>TX.fu _ _ _ false rfl rfl rfl) (by go_frame;rfl) (by simp only[List.nil_append,List.cons_append];rfl) ?_
      refine TX.ek (fun w2 hC hk=>hK _ _ ?_)
      have HS9:=hid (hC HO.out)
      clear hC hk hK
      go_wp2_with fail
      go_roundw
      case rel=>exact⟨k+1,l,by omega,by go_num,HS9.out.next HNo.out⟩
      case measure=>simp[intOf];omega
     |false=>
      have HD:=hid ((tintFns.dead (dF N) D (nth L k) h64).as (vb (hdd.trans hd)) rfl)
      obtain⟨rc,hrc⟩:∃rc:Int,rc=t.mr.refs:=⟨_,rfl⟩
      have HC:=hid ((Di (c:=dF N) (D:=D) h64).as (vi (show D.cnt (nth L k)=rc by unfold Wd.cnt;rw[hf,hrc])) rfl)
      obtain⟨M,hM⟩:∃M:Nat,M=sV D L L.length J:=⟨_,rfl⟩
      have hMs:M=sumL (dP (nth L k)) D.ts:=by rw[hM,LB HF.out,hJ]
      have HCell:∀w',(uf KP.out).r wr w'→w'.cell? ⟨q,J,none⟩=some (.int .i64 (M:Int)):=fun w' hC=>by
       rw[hM]
       exact(hC HO.out).nm.arr (by omega)
      have hjl:J<N+1:=by omega
      have hji:(J:Int)<(N:Int)+1:=by omega
      have hj0:(0:Int)≤(J:Int):=by omega
      by_cases hgt:(M:Int)<rc
      ·have HYes:Hid (wH D (J:Int)):=hid (hJ▸⟨t,hf,hd,by rw[←hMs,←hrc];exact hgt⟩)
       rw[hJ] at HI HD HC hc9
       clear hO hdd hf hd h64 hJ hrc hM hMs
       go_wp2_with fail
       refine TX.aT (T:=uf KP.out) [TX.ai.is (.pointer (some ⟨p.a,0,none⟩)),TX.ai.is (.int .i64 (J:Int)),TX.ai.is (.bool true),TX.ai.is (.bool true),TX.ai.is (.pointer (some ⟨p.a,0,none⟩)),TX.ai.is (.int .i64 (J:Int)),TX.ai.is (.bool false),TX.ai.is (.bool true),TX.ai.is (.bool true),TX.ai.is (.bool true),TX.ai.is (.pointer (some ⟨p.a,0,none⟩)),TX.ai.is (.int .i64 (J:Int)),TX.ai.is (.int .i64 rc),TX.ai.is (.slice (some ⟨q,0,none⟩) (N+1) (N+1)),TX.ai.is (.int .i64 (J:Int)),TX.ai.is (.pointer (some ⟨q,J,none⟩)),TX.ai.is (.int .i64 (M:Int)),TX.ai.is (.bool true),TX.ai.is (.bool true)] (by kernel_rfl) (by kernel_rfl) rfl (by kernel_rfl) (fun ops K2 hops hK=> ?_)
       refine TX.aa (TX.af rfl) (fun w' hC hd=>TX.aj _ (.inl rfl) rfl) (by go_frame;rfl) (by simp only[List.nil_append,List.cons_append];rfl) ?_
       refine TX.aa (TX.af rfl) (fun w' hC hd=>TX.aj _ (.inl rfl) rfl) (by go_frame;rfl) (by simp only[List.nil_append,List.cons_append];rfl) ?_
       refine TX.aa (TX.af rfl) (fun w' hC hd=>TX.bD 54 (.pointer (some ⟨p.a,0,none⟩)) 55 (.int .i64 (J:Int)) rfl rfl (fun ρ hρ hf e0 e1=>TX.aW (f:=15) (by go_simp) (fT KP.out HI.out HO.out hC))) (by go_frame;rfl) (by simp only[List.nil_append,List.cons_append];rfl) ?_
       refine TX.aa (TX.af rfl) (fun w' hC hd=>TX.aj _ (.inl rfl) rfl) (by go_frame;rfl) (by simp only[List.nil_append,List.cons_append];rfl) ?_
       refine TX.aa (TX.aG hops rfl rfl rfl rfl) (fun w' hC hd=>TX.aj _ (.inl rfl) rfl) (by go_frame;rfl) (by simp only[List.nil_append,List.cons_append];rfl) ?_
       refine TX.aa (TX.aG hops rfl rfl rfl rfl) (fun w' hC hd=>TX.aj _ (.inl rfl) rfl) (by go_frame;rfl) (by simp only[List.nil_append,List.cons_append];rfl) ?_
       refine TX.aa (TX.aG hops rfl rfl rfl rfl) (fun w' hC hd=>TX.bD 58 (.pointer (some ⟨p.a,0,none⟩)) 59 (.int .i64 (J:Int)) rfl rfl (fun ρ hρ hf e0 e1=>TX.aW (f:=16) (by go_simp) (fT KP.out HD.out HO.out hC))) (by go_frame;rfl) (by simp only[List.nil_append,List.cons_append];rfl) ?_
       refine TX.aa (TX.aG hops rfl rfl rfl rfl) (fun w' hC hd=>TX.aD 60 (.bool false) rfl (fun ρ hρ hf e0=>TX.ay (by go_simp))) (by go_frame;rfl) (by simp only[List.nil_append,List.cons_append];rfl) ?_
       refine TX.aa (TX.af rfl) (fun w' hC hd=>TX.fu _ _ _ true rfl rfl rfl) (by go_frame;rfl) (by simp only[List.nil_append,List.cons_append];rfl) ?_
       refine TX.aa (TX.af rfl) (fun w' hC hd=>TX.aj _ (.inl rfl) rfl) (by go_frame;rfl) (by simp only[List.nil_append,List.cons_append];rfl) ?_
       refine TX.aa (TX.aG hops rfl rfl rfl rfl) (fun w' hC hd=>TX.aj _ (.inl rfl) rfl) (by go_frame;rfl) (by simp only[List.nil_append,List.cons_append];rfl) ?_
       refine TX.aa (TX.aG hops rfl rfl rfl rfl) (fun w' hC hd=>TX.aj _ (.inl rfl) rfl) (by go_frame;rfl) (by simp only[List.nil_append,List.cons_append];rfl) ?_
       refine TX.aa (TX.aG hops rfl rfl rfl rfl) (fun w' hC hd=>TX.bD 64 (.pointer (some ⟨p.a,0,none⟩)) 65 (.int .i64 (J:Int)) rfl rfl (fun ρ hρ hf e0 e1=>TX.aW (f:=60) (by go_simp) (fT KP.out HC.out HO.out hC))) (by go_frame;rfl) (by simp only[List.nil_append,List.cons_append];rfl) ?_
       refine TX.aa (TX.aG hops rfl rfl rfl rfl) (fun w' hC hd=>TX.aj _ (.inl rfl) rfl) (by go_frame;rfl) (by simp only[List.nil_append,List.cons_append];rfl) ?_
       refine TX.aa (TX.aG hops rfl rfl rfl rfl) (fun w' hC hd=>TX.aj _ (.inl rfl) rfl) (by go_frame;rfl) (by simp only[List.nil_append,List.cons_append];rfl) ?_
       refine TX.aa (TX.aG hops rfl rfl rfl rfl) (fun w' hC hd=>TX.bD 67 (.slice (some ⟨q,0,none⟩) (N+1) (N+1)) 68 (.int .i64 (J:Int)) rfl rfl (fun ρ hρ hf e0 e1=>TX.ay (by go_simp))) (by go_frame;rfl) (by simp only[List.nil_append,List.cons_append];rfl) ?_
       refine TX.aa (TX.aG hops rfl rfl rfl rfl) (fun w' hC hd=>TX.aD 69 (.pointer (some ⟨q,J,none⟩)) rfl (fun ρ hρ hf e0=>TX.ay (by have hc0:=HCell w' hC;go_simp))) (by go_frame;rfl) (by simp only[List.nil_append,List.cons_append];rfl) ?_
       refine TX.aa (TX.aG hops rfl rfl rfl rfl) (fun w' hC hd=>TX.bD 66 (.int .i64 rc) 70 (.int .i64 (M:Int)) rfl rfl (fun ρ hρ hf e0 e1=>TX.ay (by have hb0:=hgt;go_simp))) (by go_frame;rfl) (by simp only[List.nil_append,List.cons_append];rfl) ?_
       refine TX.aa (TX.af rfl) (fun w' hC hd=>TX.fu _ _ _ true rfl rfl rfl) (by go_frame;rfl) (by simp only[List.nil_append,List.cons_append];rfl) ?_
       refine TX.ek (fun w2 hC hk=>hK _ _ ?_)
       have HS9:=hid (hC HO.out)
       clear hC hk hK
       have HSo:=hid HS9.out
       have hown:=HS9.out.td
       have hsz5:=HS9.out.sz
       clear HS9 HCell
       go_wp2_with (at_builtin;refine wpList_append_lies _ rfl _ _ 30 rfl w5.heap.size 3 i0 (.int .i64 0) 1 8 Tryz.underlying30 hinf hz0 hz1 hz2 rfl (by decide) _ _ _ rfl (hown.alloc _) ⟨w2.heap.size,0,none⟩ 1 1 [.int .i64 (J:Int)] rfl rfl ?c1 ?c2 (by decide) ?c3 ?c4 ?c5 (w2.heap.size+1) (by simp) ?c6)
       case c1=>
        intro j2 z hz
        exact cell_one_new w2 (.int .i64 (J:Int)) 3 j2 z hz
       case c2=>intro u hu;simp at hu;subst hu;rfl
       case c3=>unfold maxLen;omega
       case c4=>omega
       case c5=>simp;omega
       case c6=>
        intro g cap6 w6 ho hg hat hl6
        have HP:=hid (HSo.out.push (x:=(J:Int)) HJk.out.symm HYes.out HW5.out ho hg)
        clear ho hg hat hl6 hown
        go_wp2_with fail
        go_roundw
        case rel=>exact⟨k+1,_,by omega,by go_num,HP.out⟩
        case measure=>simp[intOf];omega
      ·have HNo:Hid (¬wH D (nth L k)):=hid (fun⟨t2,h1,h2,h3⟩=>by
        rw[hf] at h1
        cases h1
        rw[←hMs,←hrc] at h3
        exact hgt h3)
       rw[hJ] at HI HD HC hc9
       clear hO hdd hf hd h64 hJ hrc hM hMs
       go_wp2_with fail
       refine TX.aT (T:=uf KP.out) [TX.ai.is (.pointer (some ⟨p.a,0,none⟩)),TX.ai.is (.int .i64 (J:Int)),TX.ai.is (.bool true),TX.ai.is (.bool true),TX.ai.is (.pointer (some ⟨p.a,0,none⟩)),TX.ai.is (.int .i64 (J:Int)),TX.ai.is (.bool false),TX.ai.is (.bool true),TX.ai.is (.bool true),TX.ai.is (.bool true),TX.ai.is (.pointer (some ⟨p.a,0,none⟩)),TX.ai.is (.int .i64 (J:Int)),TX.ai.is (.int .i64 rc),TX.ai.is (.slice (some ⟨q,0,none⟩) (N+1) (N+1)),TX.ai.is (.int .i64 (J:Int)),TX.ai.is (.pointer (some ⟨q,J,none⟩)),TX.ai.is (.int .i64 (M:Int)),TX.ai.is (.bool false),TX.ai.is (.bool false)] (by kernel_rfl) (by kernel_rfl) rfl (by kernel_rfl) (fun ops K2 hops hK=> ?_)
       refine TX.aa (TX.af rfl) (fun w' hC hd=>TX.aj _ (.inl rfl) rfl) (by go_frame;rfl) (by simp only[List.nil_append,List.cons_append];rfl) ?_
       refine TX.aa (TX.af rfl) (fun w' hC hd=>TX.aj _ (.inl rfl) rfl) (by go_frame;rfl) (by simp only[List.nil_append,List.cons_append];rfl) ?_
       refine TX.aa (TX.af rfl) (fun w' hC hd=>TX.bD 54 (.pointer (some ⟨p.a,0,none⟩)) 55 (.int .i64 (J:Int)) rfl rfl (fun ρ hρ hf e0 e1=>TX.aW (f:=15) (by go_simp) (fT KP.out HI.out HO.out hC))) (by go_frame;rfl) (by simp only[List.nil_append,List.cons_append];rfl) ?_
       refine TX.aa (TX.af rfl) (fun w' hC hd=>TX.aj _ (.inl rfl) rfl) (by go_frame;rfl) (by simp only[List.nil_append,List.cons_append];rfl) ?_
       refine TX.aa (TX.aG hops rfl rfl rfl rfl) (fun w' hC hd=>TX.aj _ (.inl rfl) rfl) (by go_frame;rfl) (by simp only[List.nil_append,List.cons_append];rfl) ?_
       refine TX.aa (TX.aG hops rfl rfl rfl rfl) (fun w' hC hd=>TX.aj _ (.inl rfl) rfl) (by go_frame;rfl) (by simp only[List.nil_append,List.cons_append];rfl) ?_
       refine TX.aa (TX.aG hops rfl rfl rfl rfl) (fun w' hC hd=>TX.bD 58 (.pointer (some ⟨p.a,0,none⟩)) 59 (.int .i64 (J:Int)) rfl rfl (fun ρ hρ hf e0 e1=>TX.aW (f:=16) (by go_simp) (fT KP.out HD.out HO.out hC))) (by go_frame;rfl) (by simp only[List.nil_append,List.cons_append];rfl) ?_
       refine TX.aa (TX.aG hops rfl rfl rfl rfl) (fun w' hC hd=>TX.aD 60 (.bool false) rfl (fun ρ hρ hf e0=>TX.ay (by go_simp))) (by go_frame;rfl) (by simp only[List.nil_append,List.cons_append];rfl) ?_
       refine TX.aa (TX.af rfl) (fun w' hC hd=>TX.fu _ _ _ true rfl rfl rfl) (by go_frame;rfl) (by simp only[List.nil_append,List.cons_append];rfl) ?_
       refine TX.aa (TX.af rfl) (fun w' hC hd=>TX.aj _ (.inl rfl) rfl) (by go_frame;rfl) (by simp only[List.nil_append,List.cons_append];rfl) ?_
       refine TX.aa (TX.aG hops rfl rfl rfl rfl) (fun w' hC hd=>TX.aj _ (.inl rfl) rfl) (by go_frame;rfl) (by simp only[List.nil_append,List.cons_append];rfl) ?_
       refine TX.aa (TX.aG hops rfl rfl rfl rfl) (fun w' hC hd=>TX.aj _ (.inl rfl) rfl) (by go_frame;rfl) (by simp only[List.nil_append,List.cons_append];rfl) ?_
       refine TX.aa (TX.aG hops rfl rfl rfl rfl) (fun w' hC hd=>TX.bD 64 (.pointer (some ⟨p.a,0,none⟩)) 65 (.int .i64 (J:Int)) rfl rfl (fun ρ hρ hf e0 e1=>TX.aW (f:=60) (by go_simp) (fT KP.out HC.out HO.out hC))) (by go_frame;rfl) (by simp only[List.nil_append,List.cons_append];rfl) ?_
       refine TX.aa (TX.aG hops rfl rfl rfl rfl) (fun w' hC hd=>TX.aj _ (.inl rfl) rfl) (by go_frame;rfl) (by simp only[List.nil_append,List.cons_append];rfl) ?_
       refine TX.aa (TX.aG hops rfl rfl rfl rfl) (fun w' hC hd=>TX.aj _ (.inl rfl) rfl) (by go_frame;rfl) (by simp only[List.nil_append,List.cons_append];rfl) ?_
       refine TX.aa (TX.aG hops rfl rfl rfl rfl) (fun w' hC hd=>TX.bD 67 (.slice (some ⟨q,0,none⟩) (N+1) (N+1)) 68 (.int .i64 (J:Int)) rfl rfl (fun ρ hρ hf e0 e1=>TX.ay (by go_simp))) (by go_frame;rfl) (by simp only[List.nil_append,List.cons_append];rfl) ?_
       refine TX.aa (TX.aG hops rfl rfl rfl rfl) (fun w' hC hd=>TX.aD 69 (.pointer (some ⟨q,J,none⟩)) rfl (fun ρ hρ hf e0=>TX.ay (by have hc0:=HCell w' hC;go_simp))) (by go_frame;rfl) (by simp only[List.nil_append,List.cons_append];rfl) ?_
       refine TX.aa (TX.aG hops rfl rfl rfl rfl) (fun w' hC hd=>TX.bD 66 (.int .i64 rc) 70 (.int .i64 (M:Int)) rfl rfl (fun ρ hρ hf e0 e1=>TX.ay (by have hb0:=hgt;go_simp))) (by go_frame;rfl) (by simp only[List.nil_append,List.cons_append];rfl) ?_
       refine TX.aa (TX.af rfl) (fun w' hC hd=>TX.fu _ _ _ true rfl rfl rfl) (by go_frame;rfl) (by simp only[List.nil_append,List.cons_append];rfl) ?_
       refine TX.ek (fun w2 hC hk=>hK _ _ ?_)
       have HS9:=hid (hC HO.out)
       clear hC hk hK
       clear HCell
       go_wp2_with fail
       go_roundw
       case rel=>exact⟨k+1,l,by omega,by go_num,HS9.out.next HNo.out⟩
       case measure=>simp[intOf];omega
    ·obtain rfl:k=L.length:=by omega
     obtain⟨a3,cap3,rfl,hrow⟩:=Row.of_owns hO.td
     have HRow:=hid hrow
     have HAl:Hid (∀x,x∈L→wH D x→x∈l):=hid (fun x hx hc=>by
      obtain⟨i,hi,e⟩:=List.getElem_of_mem hx
      have h1:nth L i=x:=by rw[←e];unfold nth;simp[List.getD,hi]
      rw[←h1] at hc ⊢
      exact hO.all i hi hc)
     clear hO hrow
     go_wp2_with fail
     go_ret
     exact⟨a3,cap3,l,rfl,HRow.out,HO.out.len,HO.out.mem,HAl.out,HO.out.st,HO.out.tc⟩
def OJ(w:World)(p:Pl)(c:Cf)(D:Wd)(q:Nat)(m:Int→Bool)(w1:World)(wr:World):Prop:=RSt w p c D wr∧Blk wr q (arrV (fun i=>.bool (m (i:Int))) (c.N+1)) 4∧¬ofG p q∧Touch (inG p) w1 wr
theorem OJ.pk{w w1:World}{p:Pl}{c:Cf}{D:Wd}{q:Nat}{m:Int→Bool}:PK w p c D (OJ w p c D q m w1):=
 ⟨fun a h=>h.1,fun a b hb h=>⟨h.1.later hb,h.2.1.later hb,h.2.2.1,h.2.2.2.trans (Touch.of_below hb)⟩,fun a b h hs hT=>⟨hs,h.2.1.touch hT (fun hx=>h.2.2.1 (Or.inr hx)),h.2.2.1,h.2.2.2.trans hT⟩⟩
set_option maxHeartbeats 4000000 in
theorem uA(n:Nat)(hn:n<256)(a:Option Addr)(cap:Nat)(rs:List (List Fld))(b:Option Addr)(capb:Nat)(es:List (List Fld))(d1:Option Addr)(capd1:Nat)(hs:List Int)(d:Option Addr)(capd:Nat)(ks:List Int)(w:World)(h1:rs.length≤30)(h2:es.length≤200)(h3:hs.length≤50)(h4:ks.length≤50)
  (hr:Recs w a [.int .i64,.int .i64] rs) (he:Recs w b [.int .u8,.int .u8,.int .u8] es) (hhs:Row w .u8 d1 hs) (hhk:rQ hs) (hks:Row w .u8 d ks) (hkk:rQ ks):
  Calls Tryz.prog 4 #[.int .u8 (n:Int),.slice a rs.length cap,.slice b es.length capb,.slice d1 hs.length capd1,.slice d ks.length capd] w fun e w'=>e=.returned (.bool true)∧Below w.heap.size w w':=by
 have g1:¬30<(rs.length:Int):=by omega
 have g2:¬200<(es.length:Int):=by omega
 have g3:¬50<(hs.length:Int):=by omega
 have g4:¬50<(ks.length:Int):=by omega
 have hfc0:=dR (((n%60+4:Nat)):Int) 16 1 1
 have hfc1:=jW (((n%60+4:Nat)):Int) 16 1 1
 have HR:=hid hr
 have HE:=hid he
 have HHS:=hid hhs
 have HHK:=hid hhk
 have HKS:=hid hks
 have HKK:=hid hkk
 have HLe:Hid (hs.length≤50∧ks.length≤50):=hid ⟨h3,h4⟩
 have HN63:Hid (n%60+4≤63):=hid (by have:=Nat.mod_lt n (show 0<60 by decide);omega)
 have HGw:=hid (Gc (fun _=>Ig) n hn a cap rs b capb es w h1 h2 hr he (Ig.new _ _) (fun k D x y _ _ _ h=>h.grow x y) (fun D r i x h=>h.tie r i x))
 clear hr he hhs hhk hks hkk
 generalize n%60+4=N at*
 have hN63:N≤63:=HN63.out
 go_enter Tryz.func4,Tryz.ntmps4
 go_wp2_with fail
 refine HGw.out.mono ?_
 rintro e w1 ⟨p,lo,v,rfl,⟨D,hS,hGr,hLn,hown,hsz,hpn⟩,hP,hlo⟩
 have hin:∀j,j<D.dm.length→In64 (nth D.dm j):=fun j hj=>hGr.qV (by omega) hj
 have hF:FB N D.dm (fun _=>0) 200 D:=FB.of hGr hpn h2 (by omega)
 obtain⟨L,hLe⟩:∃L,L=D.dm:=⟨_,rfl⟩
 rw[←hLe] at hown hin hF hLn
 have hL30:L.length≤30:=by omega
 have hob:=owns_block hown
 obtain⟨a9,c9,rfl,hr9⟩:=dE.of_owns hown
 have HR9:=hid hr9.row
 have HX9:Hid (fw (inG p) a9 L):=hid (fun _ b off e hx=>hP b (hob b (by rw[e];rfl)) (Or.inr hx))
 have HIn:=hid hin
 have HK1:Hid (Row w1 .u8 d ks):=hid (HKS.out.below hS.below (Nat.le_refl _))
 have HXk:Hid (fw (inG p) d ks):=hid (HKS.out.out hS.Pf)
 have HH1:Hid (Row w1 .u8 d1 hs):=hid (HHS.out.below hS.below (Nat.le_refl _))
 have HXh:Hid (fw (inG p) d1 hs):=hid (HHS.out.out hS.Pf)
 have HF0:Hid (∃D hold,RSt w p (dF N) D w1∧FB N L hold (200+0) D):=hid ⟨D,_,hS,hF⟩
 clear hS hGr hLn hown hsz hP hlo hin hF hLe hob hr9 HGw hpn h1 h2 h3 h4
 go_wp2_with fail
 go_loopw [53] (fun i wr=>∃k:Nat,k≤hs.length∧i=.int .i64 (k:Int)∧(∃D hold,RSt w p (dF N) D wr∧FB N L hold (200+k) D)∧Touch (inG p) w1 wr) (fun i _=>hs.length-(intOf i).toNat)
 case atStart=>exact⟨0,Nat.zero_le _,rfl,HF0.out,Touch.refl _ _⟩
 case round=>
  obtain⟨k,hk,rfl,⟨D,hold,hS,hF⟩,hT⟩:=hrel
  have HS:=hid hS
  have HF:=hid hF
  have HT:=hid hT
  by_cases hlt:k<hs.length
  ·have hkx:=HHK.out k
   obtain⟨bk,ok,rfl,hbk,hck⟩:=(HH1.out.touch hT HXh.out) k hlt
   obtain⟨x,hx⟩:∃x:Nat,nth hs k=(x:Int):=⟨(nth hs k).toNat,by omega⟩
   rw[hx] at hck hkx
   by_cases hn0:L.length=0
   ·have hg:¬(0:Int)<(L.length:Int):=by omega
    clear hS hF hT hx
    go_wp2_with fail
    go_roundw
    case rel=>exact⟨k+1,by omega,by go_num,⟨D,hold,HS.out,HF.out.up⟩,HT.out⟩
    case measure=>simp[intOf];omega
   ·have hg:(0:Int)<(L.length:Int):=by omega
    have hnb:((L.length:Int)==0)=false:=by rw[beq_eq_false_iff_ne];omega
    obtain⟨t,et,ht⟩:∃t:Nat,Int.tmod (x:Int) (L.length:Int)=(t:Int)∧t<L.length:=⟨x%L.length,by rw[Int.tmod_eq_emod_of_nonneg (by omega)];rfl,Nat.mod_lt _ (by omega)⟩
    obtain⟨b9,o9,rfl,hb9,hc9⟩:=(HR9.out.touch hT HX9.out) t ht
    have h64:=HIn.out t ht
    obtain⟨u,hu⟩:=hF.fin.find ht
    have HL50:=HLe.out.1
    generalize nth L t=r at*
    cases hd:u.mr.dead with
    |true=>
     have HI:=hid (ld_Hold_no (c:=dF N) h64 (show D.aliveB r=false by unfold Wd.aliveB Wd.dead;rw[hu];simp[hd]))
     clear hS hF hT hx hu hd
     go_wp2_with fail
     refine(HS.out.does HI.out).mono ?_
     rintro e w2 ⟨rfl,hS2,hT2⟩
     have HS2:=hid hS2
     have HT2:=hid (HT.out.trans hT2)
     clear hS2 hT2
     go_wp2_with fail
     go_roundw
     case rel=>exact⟨k+1,by omega,by go_num,⟨_,_,HS2.out,HF.out.up⟩,HT2.out⟩
     case measure=>simp[intOf];omega
    |false=>
     have HI:=hid (ld_Hold (c:=dF N) hu hd (by have:=(hF.pi.bd r u hu).1;omega))
     have HF2:=hid (hF.held hu hd)
     clear hS hF hT hx hu hd
     go_wp2_with fail
     refine(HS.out.does HI.out).mono ?_
     rintro e w2 ⟨rfl,hS2,hT2⟩
     have HS2:=hid hS2
     have HT2:=hid (HT.out.trans hT2)
     clear hS2 hT2
     go_wp2_with fail
     go_roundw
     case rel=>
      obtain⟨hold2,hF2⟩:=HF2.out
      exact⟨k+1,by omega,by go_num,⟨_,hold2,HS2.out,hF2⟩,HT2.out⟩
     case measure=>simp[intOf];omega
  ·have HF1:Hid (∃D hold,RSt w p (dF N) D wr∧FB N L hold 250 D):=hid ⟨D,hold,hS,⟨hF.fin,hF.nam,hF.out,hF.col,hF.ph,hF.ring,hF.pi.mono (by have:=HLe.out.1;omega)⟩⟩
   clear hS hF HS HF
   go_wp2_with fail
   go_loopw [73] (fun i wr=>∃k:Nat,k≤ks.length∧i=.int .i64 (k:Int)∧(∃D hold,RSt w p (dF N) D wr∧FB N L hold 250 D)∧Touch (inG p) w1 wr) (fun i _=>ks.length-(intOf i).toNat)
   case atStart=>exact⟨0,Nat.zero_le _,rfl,HF1.out,HT.out⟩
   case round=>
    obtain⟨k,hk,rfl,⟨D,hold,hS,hF⟩,hT⟩:=hrel
    have HS:=hid hS
    have HF:=hid hF
    have HT:=hid hT
    by_cases hlt:k<ks.length
    ·have hkx:=HKK.out k
     obtain⟨bk,ok,rfl,hbk,hck⟩:=(HK1.out.touch hT HXk.out) k hlt
     obtain⟨x,hx⟩:∃x:Nat,nth ks k=(x:Int):=⟨(nth ks k).toNat,by omega⟩
     rw[hx] at hck hkx
     by_cases hn0:L.length=0
     ·have hg:¬(0:Int)<(L.length:Int):=by omega
      clear hS hF hT hx
      go_wp2_with fail
      go_roundw
      case rel=>exact⟨k+1,by omega,by go_num,⟨D,hold,HS.out,HF.out⟩,HT.out⟩
      case measure=>simp[intOf];omega
     ·have hg:(0:Int)<(L.length:Int):=by omega
      have hnb:((L.length:Int)==0)=false:=by rw[beq_eq_false_iff_ne];omega
      obtain⟨t,et,ht⟩:∃t:Nat,Int.tmod (x:Int) (L.length:Int)=(t:Int)∧t<L.length:=⟨x%L.length,by rw[Int.tmod_eq_emod_of_nonneg (by omega)];rfl,Nat.mod_lt _ (by omega)⟩
      obtain⟨b9,o9,rfl,hb9,hc9⟩:=(HR9.out.touch hT HX9.out) t ht
      have hpb:=hS.pendBd hF.fin.san
      have HI:=hid (AJ (c:=dF N) (D:=D) (HIn.out t ht) hpb.1 hpb.2)
      have HF2:=hid (hF.inter (nth L t))
      generalize nth L t=r at*
      clear hS hF hT hx hpb
      go_wp2_with fail
      refine(HS.out.does HI.out).mono ?_
      rintro e w2 ⟨rfl,hS2,hT2⟩
      have HS2:=hid hS2
      have HT2:=hid (HT.out.trans hT2)
      clear hS2 hT2
      go_wp2_with fail
      go_roundw
      case rel=>exact⟨k+1,by omega,by go_num,⟨_,_,HS2.out,HF2.out⟩,HT2.out⟩
      case measure=>simp[intOf];omega
    ·have HOu:=hid (wR hS hF.fin hF.nam (by omega) a9 c9 (HR9.out.touch hT HX9.out) HX9.out hL30)
     clear hS hF hT
     go_wp2_with fail
     refine HOu.out.mono ?_
     rintro e w2 ⟨a3,cap3,fl,rfl,hrow,hfl,hc1,hc2,hS2,hT2⟩
     have HRe:=hid (reached_any hS2 HF.out.fin.san HF.out.nam (by show N≤1000;omega) a3 cap3 fl hrow (fun x hx=>by
      obtain⟨t,ht,_⟩:=hc1 x hx
      exact⟨t,ht⟩) (by omega))
     have HS2:=hid hS2
     have HT2:=hid (HT.out.trans hT2)
     have HFl:Hid ((∀x,x∈fl→∃b:Nat,x=(b:Int)+1∧0<hold b)∧∀b:Nat,0<hold b→(b:Int)+1∈fl):=hid ⟨fun x hx=>by
      obtain⟨t,ht,hd,hlt⟩:=hc1 x hx
      obtain⟨htl,er⟩:=find_live ht
      have h1:=HF.out.nam.cnt t htl
      rw[er] at h1
      exact⟨t.h,er.symm,by omega⟩,fun b hb=>by
      obtain⟨t,ht,hd,htl,rfl⟩:=held_of HF.out.fin.san HF.out.nam HF.out.out hb
      refine hc2 _ ?_ ⟨t,ht,hd,?_⟩
      ·rw[←HF.out.fin.refs]
       exact List.mem_map.2 ⟨t,(bZ.1 htl).1,rfl⟩
      ·have h1:=HF.out.nam.cnt t htl
       omega⟩
     clear hrow hfl hc1 hc2 hS2 hT2
     go_wp2_with fail
     refine HRe.out.mono ?_
     rintro e w3 ⟨q2,m,rfl,hq2,hb2,hB2,hmk⟩
     have HS3:=hid (HS2.out.later hB2)
     have HT3:=hid (HT2.out.trans (Touch.of_below hB2))
     have HBm:=hid hb2
     have HNq:Hid (¬ofG p q2):=hid (HS2.out.notG hq2)
     have HTQ:=hid (HF.out.tq HS3.out)
     have HMk:Hid (MkR (D.turn.begin 1) fl (fun x=>m x=true)):=hid (hmk.pt (Pt.ts rfl))
     have HRu:=hid (Fh HS3.out HF.out.pi (by omega) (by show N≤1000;omega))
     have hn1:(dF N).N=N:=rfl
     clear hb2 hB2 hmk hq2
     go_wp2_with fail
     refine HRu.out.mono ?_
     rintro e w4 ⟨mm,nn,rfl,k1,k2,k3,k4,k5,k6,k7,k8⟩
     obtain⟨e1,e2,e3,e4⟩:=HTQ.out.fin k1 k2 k4 k5 HMk.out HFl.out.1 HFl.out.2
     generalize bg nn ((aC mm (D.turn.begin 1)).begin 2)=De at*
     have HS4:Hid (OJ w p (dF N) De q2 m w1 w4):=hid ⟨k6,HBm.out.touch k8 (fun hx=>HNq.out (Or.inr hx)),HNq.out,HT3.out.trans k8⟩
     have HE3:Hid (∀j,j<L.length→∃t,De.find (nth L j)=some t):=hid (fun j hj=>by
      obtain⟨t,ht⟩:=HF.out.fin.find hj
      obtain⟨t',h1,_⟩:=e3.some (show(D.turn.begin 1).find (nth L j)=some t from ht)
      exact⟨t',h1⟩)
     have HE4:=hid e4
     have HRl:=hid ((RSt.Md zu (w:=w) (wr:=w4) (p:=p) (c:=dF N) (D:=De)).as (vi (show(De.ring.length:Int)=0 by rw[e2];rfl)) rfl)
     have hnn:(nn:Int)≤(N:Int)*18:=by omega
     have hNN:IntKind.i64.wrap ((N:Int)*18)=(N:Int)*18:=IntWalk.i64_in _ (by omega)
     clear k1 k2 k3 k4 k5 k6 k7 k8 e1 e2 e3 e4
     go_wp2_with fail
     go_loopw [100] (fun i wr=>∃k:Nat,k≤L.length∧i=.int .i64 (k:Int)∧OJ w p (dF N) De q2 m w1 wr) (fun i _=>L.length-(intOf i).toNat)
     case atStart=>exact⟨0,Nat.zero_le _,rfl,HS4.out⟩
     case round=>
      obtain⟨k,hk,rfl,hM⟩:=hrel
      have HS:=hid hM
      by_cases hlt:k<L.length
      ·obtain⟨b9,o9,rfl,hb9,hc9⟩:=(HR9.out.touch hM.2.2.2 HX9.out) k hlt
       obtain⟨t,hf⟩:=HE3.out k hlt
       obtain⟨J,hJ,hJ1,hJN⟩:=RSt.BI hM.1 hf
       have hJN:J≤N:=hJN
       rw[hJ] at hf hc9
       have h64:In64 (J:Int):=by unfold In64;omega
       have hdd:De.dead (J:Int)=t.mr.dead:=by unfold Wd.dead;rw[hf]
       have hbb:De.black (J:Int)=decide (t.mr.color=De.parity):=by unfold Wd.black;rw[hf]
       have KP:=hid (OJ.pk (w:=w) (w1:=w1) (p:=p) (c:=dF N) (D:=De) (q:=q2) (m:=m))
       have hjl:J<N+1:=by omega
       have hji:(J:Int)<(N:Int)+1:=by omega
       have hj0:(0:Int)≤(J:Int):=by omega
       cases hd:t.mr.dead with
       |true=>
        have HD:=hid ((tintFns.dead (dF N) De (J:Int) h64).as (vb (hdd.trans hd)) rfl)
        clear hM hf hd hdd hbb hJ
        go_wp2_with fail
        refine TX.aT (T:=uf KP.out) [TX.ai.is (.pointer (some ⟨p.a,0,none⟩)),TX.ai.is (.int .i64 (J:Int)),TX.ai.is (.bool true),TX.ai.is (.bool false),TX.ai.is (.bool false),TX.ai.is undef,TX.ai.is undef,TX.ai.is undef,TX.ai.is undef,TX.ai.is undef,TX.ai.is undef,TX.ai.is undef,TX.ai.is undef,TX.ai.is (.bool false)] (by kernel_rfl) (by kernel_rfl) rfl (by kernel_rfl) (fun ops K2 hops hK=> ?_)
        refine TX.aa (TX.af rfl) (fun w' hC hd=>TX.aj _ (.inl rfl) rfl) (by go_frame;rfl) (by simp only[List.nil_append,List.cons_append];rfl) ?_
        refine TX.aa (TX.af rfl) (fun w' hC hd=>TX.aj _ (.inl rfl) rfl) (by go_frame;rfl) (by simp only[List.nil_append,List.cons_append];rfl) ?_
        refine TX.aa (TX.af rfl) (fun w' hC hd=>TX.bD 104 (.pointer (some ⟨p.a,0,none⟩)) 105 (.int .i64 (J:Int)) rfl rfl (fun ρ hρ hf e0 e1=>TX.aW (f:=16) (by go_simp) (fT KP.out HD.out HS.out hC))) (by go_frame;rfl) (by simp only[List.nil_append,List.cons_append];rfl) ?_
        refine TX.aa (TX.af rfl) (fun w' hC hd=>TX.aD 106 (.bool true) rfl (fun ρ hρ hf e0=>TX.ay (by go_simp))) (by go_frame;rfl) (by simp only[List.nil_append,List.cons_append];rfl) ?_
        refine TX.aa (TX.af rfl) (fun w' hC hd=>TX.aj _ (.inl rfl) rfl) (by go_frame;rfl) (by simp only[List.nil_append,List.cons_append];rfl) ?_
        refine TX.bf (TX.dI hops rfl rfl rfl rfl) (by go_frame;rfl) (by simp only[List.nil_append,List.cons_append];rfl) ?_
        refine TX.bf (TX.dI hops rfl rfl rfl rfl) (by go_frame;rfl) (by simp only[List.nil_append,List.cons_append];rfl) ?_
        refine TX.bf (TX.dI hops rfl rfl rfl rfl) (by go_frame;rfl) (by simp only[List.nil_append,List.cons_append];rfl) ?_
        refine TX.bf (TX.dI hops rfl rfl rfl rfl) (by go_frame;rfl) (by simp only[List.nil_append,List.cons_append];rfl) ?_
        refine TX.bf (TX.dI hops rfl rfl rfl rfl) (by go_frame;rfl) (by simp only[List.nil_append,List.cons_append];rfl) ?_
        refine TX.bf (TX.dI hops rfl rfl rfl rfl) (by go_frame;rfl) (by simp only[List.nil_append,List.cons_append];rfl) ?_
        refine TX.bf (TX.dI hops rfl rfl rfl rfl) (by go_frame;rfl) (by simp only[List.nil_append,List.cons_append];rfl) ?_
        refine TX.bf (TX.dI hops rfl rfl rfl rfl) (by go_frame;rfl) (by simp only[List.nil_append,List.cons_append];rfl) ?_
        refine TX.aa (TX.af rfl) (fun w' hC hd=>TX.fu _ _ _ false rfl rfl rfl) (by go_frame;rfl) (by simp only[List.nil_append,List.cons_append];rfl) ?_
        refine TX.ek (fun w2 hC hk=>hK _ _ ?_)
        have HS9:=hid (hC HS.out)
        clear hC hk hK
        go_wp2_with fail
        go_roundw
        case rel=>exact⟨k+1,by omega,by go_num,HS9.out⟩
        case measure=>simp[intOf];omega
       |false=>
        have HD:=hid ((tintFns.dead (dF N) De (J:Int) h64).as (vb (hdd.trans hd)) rfl)
        have hgt:True:=trivial
        have hiff:=HE4.out (J:Int) t hf hd
        cases hmv:m (J:Int) with
        |true=>
         have HBl:=hid ((tintFns.black (dF N) De (J:Int) h64).as (vb (hbb.trans (decide_eq_true (hiff.2 hmv)))) rfl)
         have HCell:∀w',(uf KP.out).r wr w'→w'.cell? ⟨q2,J,none⟩=some (.bool true):=fun w' hC=>by
          rw[←hmv]
          exact(hC HS.out).2.1.arr (show J<(dF N).N+1 by omega)
         clear hM hf hd hdd hbb hJ hiff hmv
         go_wp2_with fail
         refine TX.aT (T:=uf KP.out) [TX.ai.is (.pointer (some ⟨p.a,0,none⟩)),TX.ai.is (.int .i64 (J:Int)),TX.ai.is (.bool false),TX.ai.is (.bool true),TX.ai.is (.bool true),TX.ai.is (.pointer (some ⟨p.a,0,none⟩)),TX.ai.is (.int .i64 (J:Int)),TX.ai.is (.bool true),TX.ai.is (.slice (some ⟨q2,0,none⟩) (N+1) (N+1)),TX.ai.is (.int .i64 (J:Int)),TX.ai.is (.pointer (some ⟨q2,J,none⟩)),TX.ai.is (.bool true),TX.ai.is (.bool false),TX.ai.is (.bool false)] (by kernel_rfl) (by kernel_rfl) rfl (by kernel_rfl) (fun ops K2 hops hK=> ?_)
         refine TX.aa (TX.af rfl) (fun w' hC hd=>TX.aj _ (.inl rfl) rfl) (by go_frame;rfl) (by simp only[List.nil_append,List.cons_append];rfl) ?_
         refine TX.aa (TX.af rfl) (fun w' hC hd=>TX.aj _ (.inl rfl) rfl) (by go_frame;rfl) (by simp only[List.nil_append,List.cons_append];rfl) ?_
         refine TX.aa (TX.af rfl) (fun w' hC hd=>TX.bD 104 (.pointer (some ⟨p.a,0,none⟩)) 105 (.int .i64 (J:Int)) rfl rfl (fun ρ hρ hf e0 e1=>TX.aW (f:=16) (by go_simp) (fT KP.out HD.out HS.out hC))) (by go_frame;rfl) (by simp only[List.nil_append,List.cons_append];rfl) ?_
         refine TX.aa (TX.af rfl) (fun w' hC hd=>TX.aD 106 (.bool false) rfl (fun ρ hρ hf e0=>TX.ay (by go_simp))) (by go_frame;rfl) (by simp only[List.nil_append,List.cons_append];rfl) ?_
         refine TX.aa (TX.af rfl) (fun w' hC hd=>TX.aj _ (.inl rfl) rfl) (by go_frame;rfl) (by simp only[List.nil_append,List.cons_append];rfl) ?_
         refine TX.aa (TX.aG hops rfl rfl rfl rfl) (fun w' hC hd=>TX.aj _ (.inl rfl) rfl) (by go_frame;rfl) (by simp only[List.nil_append,List.cons_append];rfl) ?_
         refine TX.aa (TX.aG hops rfl rfl rfl rfl) (fun w' hC hd=>TX.aj _ (.inl rfl) rfl) (by go_frame;rfl) (by simp only[List.nil_append,List.cons_append];rfl) ?_
         refine TX.aa (TX.aG hops rfl rfl rfl rfl) (fun w' hC hd=>TX.bD 109 (.pointer (some ⟨p.a,0,none⟩)) 110 (.int .i64 (J:Int)) rfl rfl (fun ρ hρ hf e0 e1=>TX.aW (f:=17) (by go_simp) (fT KP.out HBl.out HS.out hC))) (by go_frame;rfl) (by simp only[List.nil_append,List.cons_append];rfl) ?_
         refine TX.aa (TX.aG hops rfl rfl rfl rfl) (fun w' hC hd=>TX.aj _ (.inl rfl) rfl) (by go_frame;rfl) (by simp only[List.nil_append,List.cons_append];rfl) ?_
         refine TX.aa (TX.aG hops rfl rfl rfl rfl) (fun w' hC hd=>TX.aj _ (.inl rfl) rfl) (by go_frame;rfl) (by simp only[List.nil_append,List.cons_append];rfl) ?_
         refine TX.aa (TX.aG hops rfl rfl rfl rfl) (fun w' hC hd=>TX.bD 112 (.slice (some ⟨q2,0,none⟩) (N+1) (N+1)) 113 (.int .i64 (J:Int)) rfl rfl (fun ρ hρ hf e0 e1=>TX.ay (by go_simp))) (by go_frame;rfl) (by simp only[List.nil_append,List.cons_append];rfl) ?_
         refine TX.aa (TX.aG hops rfl rfl rfl rfl) (fun w' hC hd=>TX.aD 114 (.pointer (some ⟨q2,J,none⟩)) rfl (fun ρ hρ hf e0=>TX.ay (by have hc0:=HCell w' hC;go_simp))) (by go_frame;rfl) (by simp only[List.nil_append,List.cons_append];rfl) ?_
         refine TX.aa (TX.aG hops rfl rfl rfl rfl) (fun w' hC hd=>TX.bD 111 (.bool true) 115 (.bool true) rfl rfl (fun ρ hρ hf e0 e1=>TX.ay (by have hb0:=hgt;go_simp))) (by go_frame;rfl) (by simp only[List.nil_append,List.cons_append];rfl) ?_
         refine TX.aa (TX.af rfl) (fun w' hC hd=>TX.fu _ _ _ true rfl rfl rfl) (by go_frame;rfl) (by simp only[List.nil_append,List.cons_append];rfl) ?_
         refine TX.ek (fun w2 hC hk=>hK _ _ ?_)
         have HS9:=hid (hC HS.out)
         clear hC hk hK
         clear HCell
         go_wp2_with fail
         go_roundw
         case rel=>exact⟨k+1,by omega,by go_num,HS9.out⟩
         case measure=>simp[intOf];omega
        |false=>
         have HBl:=hid ((tintFns.black (dF N) De (J:Int) h64).as (vb (hbb.trans (decide_eq_false (fun h=>by rw[hiff.1 h] at hmv;cases hmv)))) rfl)
         have HCell:∀w',(uf KP.out).r wr w'→w'.cell? ⟨q2,J,none⟩=some (.bool false):=fun w' hC=>by
          rw[←hmv]
          exact(hC HS.out).2.1.arr (show J<(dF N).N+1 by omega)
         clear hM hf hd hdd hbb hJ hiff hmv
         go_wp2_with fail
         refine TX.aT (T:=uf KP.out) [TX.ai.is (.pointer (some ⟨p.a,0,none⟩)),TX.ai.is (.int .i64 (J:Int)),TX.ai.is (.bool false),TX.ai.is (.bool true),TX.ai.is (.bool true),TX.ai.is (.pointer (some ⟨p.a,0,none⟩)),TX.ai.is (.int .i64 (J:Int)),TX.ai.is (.bool false),TX.ai.is (.slice (some ⟨q2,0,none⟩) (N+1) (N+1)),TX.ai.is (.int .i64 (J:Int)),TX.ai.is (.pointer (some ⟨q2,J,none⟩)),TX.ai.is (.bool false),TX.ai.is (.bool false),TX.ai.is (.bool false)] (by kernel_rfl) (by kernel_rfl) rfl (by kernel_rfl) (fun ops K2 hops hK=> ?_)
         refine TX.aa (TX.af rfl) (fun w' hC hd=>TX.aj _ (.inl rfl) rfl) (by go_frame;rfl) (by simp only[List.nil_append,List.cons_append];rfl) ?_
         refine TX.aa (TX.af rfl) (fun w' hC hd=>TX.aj _ (.inl rfl) rfl) (by go_frame;rfl) (by simp only[List.nil_append,List.cons_append];rfl) ?_
         refine TX.aa (TX.af rfl) (fun w' hC hd=>TX.bD 104 (.pointer (some ⟨p.a,0,none⟩)) 105 (.int .i64 (J:Int)) rfl rfl (fun ρ hρ hf e0 e1=>TX.aW (f:=16) (by go_simp) (fT KP.out HD.out HS.out hC))) (by go_frame;rfl) (by simp only[List.nil_append,List.cons_append];rfl) ?_
         refine TX.aa (TX.af rfl) (fun w' hC hd=>TX.aD 106 (.bool false) rfl (fun ρ hρ hf e0=>TX.ay (by go_simp))) (by go_frame;rfl) (by simp only[List.nil_append,List.cons_append];rfl) ?_
         refine TX.aa (TX.af rfl) (fun w' hC hd=>TX.aj _ (.inl rfl) rfl) (by go_frame;rfl) (by simp only[List.nil_append,List.cons_append];rfl) ?_
         refine TX.aa (TX.aG hops rfl rfl rfl rfl) (fun w' hC hd=>TX.aj _ (.inl rfl) rfl) (by go_frame;rfl) (by simp only[List.nil_append,List.cons_append];rfl) ?_
         refine TX.aa (TX.aG hops rfl rfl rfl rfl) (fun w' hC hd=>TX.aj _ (.inl rfl) rfl) (by go_frame;rfl) (by simp only[List.nil_append,List.cons_append];rfl) ?_
         refine TX.aa (TX.aG hops rfl rfl rfl rfl) (fun w' hC hd=>TX.bD 109 (.pointer (some ⟨p.a,0,none⟩)) 110 (.int .i64 (J:Int)) rfl rfl (fun ρ hρ hf e0 e1=>TX.aW (f:=17) (by go_simp) (fT KP.out HBl.out HS.out hC))) (by go_frame;rfl) (by simp only[List.nil_append,List.cons_append];rfl) ?_
         refine TX.aa (TX.aG hops rfl rfl rfl rfl) (fun w' hC hd=>TX.aj _ (.inl rfl) rfl) (by go_frame;rfl) (by simp only[List.nil_append,List.cons_append];rfl) ?_
         refine TX.aa (TX.aG hops rfl rfl rfl rfl) (fun w' hC hd=>TX.aj _ (.inl rfl) rfl) (by go_frame;rfl) (by simp only[List.nil_append,List.cons_append];rfl) ?_
         refine TX.aa (TX.aG hops rfl rfl rfl rfl) (fun w' hC hd=>TX.bD 112 (.slice (some ⟨q2,0,none⟩) (N+1) (N+1)) 113 (.int .i64 (J:Int)) rfl rfl (fun ρ hρ hf e0 e1=>TX.ay (by go_simp))) (by go_frame;rfl) (by simp only[List.nil_append,List.cons_append];rfl) ?_
         refine TX.aa (TX.aG hops rfl rfl rfl rfl) (fun w' hC hd=>TX.aD 114 (.pointer (some ⟨q2,J,none⟩)) rfl (fun ρ hρ hf e0=>TX.ay (by have hc0:=HCell w' hC;go_simp))) (by go_frame;rfl) (by simp only[List.nil_append,List.cons_append];rfl) ?_
         refine TX.aa (TX.aG hops rfl rfl rfl rfl) (fun w' hC hd=>TX.bD 111 (.bool false) 115 (.bool false) rfl rfl (fun ρ hρ hf e0 e1=>TX.ay (by have hb0:=hgt;go_simp))) (by go_frame;rfl) (by simp only[List.nil_append,List.cons_append];rfl) ?_
         refine TX.aa (TX.af rfl) (fun w' hC hd=>TX.fu _ _ _ true rfl rfl rfl) (by go_frame;rfl) (by simp only[List.nil_append,List.cons_append];rfl) ?_
         refine TX.ek (fun w2 hC hk=>hK _ _ ?_)
         have HS9:=hid (hC HS.out)
         clear hC hk hK
         clear HCell
         go_wp2_with fail
         go_roundw
         case rel=>exact⟨k+1,by omega,by go_num,HS9.out⟩
         case measure=>simp[intOf];omega
      ·clear hM
       go_wp2_with fail
       refine(begun17_any _).mono ?_
       rintro e w9 ⟨rfl,hb⟩
       have HS9:=hid (HS.out.1.later hb)
       clear hb
       go_wp2_with fail
       refine HS9.out.conf.mono ?_
       rintro e w10 ⟨rfl,hb⟩
       have HS10:=hid (HS9.out.later hb)
       clear hb
       go_wp2_with fail
       refine HS10.out.conf.mono ?_
       rintro e w11 ⟨rfl,hb⟩
       have HS11:=hid (HS10.out.later hb)
       clear hb
       go_wp2_with fail
       refine(HS11.out.does HRl.out).mono ?_
       rintro e w12 ⟨rfl,hS12,_⟩
       have HS12:=hid hS12.below
       clear hS12
       go_wp2_with fail
       go_ret
       exact⟨rfl,HS12.out⟩
set_option maxHeartbeats 1000000 in
theorem sU(n:Value)(a:Option Addr)(cap l1:Nat)(b:Option Addr)(capb l2:Nat)(d:Option Addr)(capd l3:Nat)(d2:Option Addr)(capd2 l4:Nat)(w:World)(h:¬(l1≤30∧l2≤200∧l3≤50∧l4≤50)):
  Calls Tryz.prog 4 #[n,.slice a l1 cap,.slice b l2 capb,.slice d l3 capd,.slice d2 l4 capd2] w fun e w'=>e=.returned (.bool true)∧Below w.heap.size w w':=by
 by_cases h1:30<(l1:Int)
 ·clear h
  go_enter Tryz.func4,Tryz.ntmps4
  go_wp2_with fail
  refine(begun17_any _).mono ?_
  rintro e w1 ⟨rfl,hb⟩
  go_wp2_with fail
  go_ret
  exact⟨rfl,hb⟩
 ·skip
  by_cases h2:200<(l2:Int)
  ·clear h
   go_enter Tryz.func4,Tryz.ntmps4
   go_wp2_with fail
   refine(begun17_any _).mono ?_
   rintro e w1 ⟨rfl,hb⟩
   go_wp2_with fail
   go_ret
   exact⟨rfl,hb⟩
  ·skip
   by_cases h3:50<(l3:Int)
   ·clear h
    go_enter Tryz.func4,Tryz.ntmps4
    go_wp2_with fail
    refine(begun17_any _).mono ?_
    rintro e w1 ⟨rfl,hb⟩
    go_wp2_with fail
    go_ret
    exact⟨rfl,hb⟩
   ·skip
    have h4:50<(l4:Int):=by omega
    clear h
    go_enter Tryz.func4,Tryz.ntmps4
    go_wp2_with fail
    refine(begun17_any _).mono ?_
    rintro e w1 ⟨rfl,hb⟩
    go_wp2_with fail
    go_ret
    exact⟨rfl,hb⟩
end Go.Proofs.YtofhdfjkhfkhiaaGreat.Pk
