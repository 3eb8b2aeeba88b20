/-
  Texts laid together: GravGrown, LinkNam, LinkActF, GravEndF.
-/
import Derived.Test.YtofhdfjkhfkhiaaGreatGravNamEtc
import Derived.Test.YtofhdfjkhfkhiaaGreatObjWholeFEtc
import Derived.Test.YtofhdfjkhfkhiaaGreatRecsEtc
import Derived.Test.YtofhdfjkhfkhiaaGreatRefG2Etc
namespace Go.Proofs.YtofhdfjkhfkhiaaGreat.Pk
open Go.RowKit
set_option linter.unusedVariables false
set_option linter.unusedSimpArgs false
set_option maxRecDepth 100000
section
variable {c:Cf} {D:Wd} {x y:Int} {w wr:World} {p:Pl} {N k:Nat}
theorem RSt.sizes(h:RSt w p c D wr):∀t,t∈D.live→t.pt.length≤100000:=fun t ht=>by
 obtain⟨zs,m,hG,hR,_⟩:=h
 have:=(hR.sizes hG.wz ht).1
 omega
theorem Gro.in64(G:Gro N D k)(hN:N≤10000){j:Nat}(hj:j<D.allR.length):In64 (nth D.allR j):=by
 obtain⟨t,ht,e,_⟩:=G.at hj
 have:=G.lt t (mem_live.1 ht).1
 rw[e]
 unfold In64
 omega
end
def Og(X:Nat→Wd→Prop)(w:World)(lo:Nat)(p:Pl)(N k j m:Nat)(v:Value)(wr:World):Prop:=
 ∃D,RSt w p (cfR N) D wr∧Gro N D k∧D.allR.length≤j∧wr.ownsRow lo 3 1 v D.allR.length (D.allR.map (Value.int .i64))∧lo≤wr.heap.size∧X m D
theorem Og.later{X:Nat→Wd→Prop}{w wr w':World}{lo:Nat}{p:Pl}{N k j m:Nat}{v:Value}(h:Og X w lo p N k j m v wr)(hb:Below wr.heap.size wr w'):Og X w lo p N k j m v w':=by
 obtain⟨D,h1,h2,h3,h4,h5,h6⟩:=h
 exact⟨D,h1.later hb,h2,h3,wK h4 (Touch.of_below (X:=fun _=>False) hb) (fun _ _ h=>h),Nat.le_trans h5 hb.size,h6⟩
def IC(φ:Th→Nat)(D:Wd):Nat→Nat
 |0=>0
 |k+1=>IC φ D k+atD φ D ((k:Int)+1)
def KZ(φ:Th→Nat)(l:List Th)(r:Int):Nat:=match findL r l with|none=>0|some t=>φ t
def lX(φ:Th→Nat)(l:List Th):Nat→Nat
 |0=>0
 |k+1=>lX φ l k+KZ φ l ((k:Int)+1)
theorem ni{h:Nat}:∀{l:List Th},(∀u,u∈liveL l→u.h≠h)→findL ((h:Int)+1) l=none
 |[],_=>rfl
 |u::l,hn=>by
  unfold findL
  rw[live_cons] at hn
  cases hu:u.ended with
  |true=>
   have:u.at ((h:Int)+1)=false:=by unfold Th.at;simp[hu]
   rw[this]
   rw[hu] at hn
   exact ni (by simpa using hn)
  |false=>
   rw[hu] at hn
   have hne:=hn u (by simp)
   have:u.at ((h:Int)+1)=false:=by
    unfold Th.at
    simp
    intro _ e
    omega
   rw[this]
   exact ni (fun v hv=>hn v (by simp[hv]))
theorem tX{φ:Th→Nat}{u:Th}{l:List Th}(hn:((liveL (u::l)).map Th.h).Nodup):∀k,lX φ (u::l) k=lX φ l k+(if u.ended=false∧u.h<k then φ u else 0)
 |0=>by simp[lX]
 |k+1=>by
  have ih:=tX (φ:=φ) hn k
  show lX φ (u::l) k+KZ φ (u::l) ((k:Int)+1)=lX φ l k+KZ φ l ((k:Int)+1)+_
  rw[ih]
  have e1:KZ φ (u::l) ((k:Int)+1)=KZ φ l ((k:Int)+1)+(if u.ended=false∧u.h=k then φ u else 0):=by
   unfold KZ
   rw[show findL ((k:Int)+1) (u::l)=if u.at ((k:Int)+1) then some u else findL ((k:Int)+1) l from rfl]
   cases hu:u.ended with
   |true=>
    have:u.at ((k:Int)+1)=false:=by unfold Th.at;simp[hu]
    rw[this]
    simp
   |false=>
    by_cases e:u.h=k
    ·have:u.at ((k:Int)+1)=true:=by unfold Th.at;simp[hu,e]
     rw[this]
     have hf:findL ((k:Int)+1) l=none:=ni (fun v hv e2=>by
      rw[live_cons,hu] at hn
      simp at hn
      exact hn.1 v hv (by omega))
     rw[hf]
     simp[e]
    ·have:u.at ((k:Int)+1)=false:=by
      unfold Th.at
      simp
      intro _ e2
      omega
     rw[this]
     simp[e]
  rw[e1]
  cases hu:u.ended with
  |true=>first|(simp;done)|(simp;omega)
  |false=>
   simp only[true_and]
   by_cases h1:u.h<k
   ·rw[if_pos h1,if_neg (by omega),if_pos (by omega)];omega
   ·by_cases h2:u.h=k
    ·rw[if_neg h1,if_pos h2,if_pos (by omega)];omega
    ·rw[if_neg h1,if_neg h2,if_neg (by omega)];omega
theorem wT{φ:Th→Nat}{N:Nat}:∀{l:List Th},((liveL l).map Th.h).Nodup→(∀t,t∈liveL l→t.h<N)→lX φ l N=sumL φ l
 |[],_,_=>by
  have:∀k,lX φ [] k=0:=fun k=>by
   induction k with
   |zero=>rfl
   |succ k ih=>show lX φ [] k+KZ φ [] _=0;rw[ih];rfl
  rw[this]
  rfl
 |u::l,hn,hlt=>by
  have hn2:((liveL l).map Th.h).Nodup:=by
   rw[live_cons] at hn
   cases hu:u.ended with
   |true=>rw[hu] at hn;simpa using hn
   |false=>rw[hu] at hn;simp at hn;exact hn.2
  rw[tX hn,sumL_cons,wT hn2 (fun t ht=>hlt t (by rw[live_cons];split;exact ht;exact List.mem_cons_of_mem _ ht))]
  cases hu:u.ended with
  |true=>simp
  |false=>
   rw[if_pos ⟨rfl,hlt u (by rw[live_cons,hu];simp)⟩]
   simp
   omega
theorem IE(φ:Th→Nat)(D:Wd):∀k,IC φ D k=lX φ D.ts k
 |0=>rfl
 |k+1=>by
  show IC φ D k+atD φ D _=lX φ D.ts k+KZ φ D.ts _
  rw[IE φ D k]
  rfl
theorem IG{φ:Th→Nat}{D:Wd}{N:Nat}(S:San D)(hlt:∀t,t∈D.live→t.h<N):IC φ D N=sumL φ D.ts:=(IE φ D N).trans (wT S.nd hlt)
section
variable {c:Cf} {D:Wd} {t u:Th} {r x:Int} {w wr:World} {p:Pl} {zs:List Int}
theorem Kv(S:San D)(hz:Wz c zs)(R:ai c zs D)(htl:t∈D.live):ik c zs t.ob=t.pt:=by
 have hp1:ik c zs t.ob=(List.range t.pt.length).map (fun i=>nth t.pt i):=by
  show(List.range t.pt.length).map (fun i=>cZ c zs t.ob i)=_
  refine List.map_congr_left (fun i hi=> ?_)
  have h2:i<t.pt.length:=List.mem_range.1 hi
  have hfl:t.su i=nth t.pt i:=by unfold Th.su;rw[if_pos h2]
  have hk:=S.ok t htl
  unfold cZ
  cases ha:aD c t.ob i with
  |some a=>
   have hv:=R.su t htl i a (by unfold Th.ob Ob.f;simp;omega) ha
   show nth zs a=_
   rw[hv,hfl]
  |none=>
   show(0:Int)=nth t.pt i
   cases hd:t.mr.dead with
   |false=>
    obtain⟨a,ha2⟩:=(hk.alive hd).field hz.may R.w.symm hk.geo h2
    rw[ha] at ha2
    cases ha2
   |true=>
    by_cases hl:(i:Int)<t.mr.left
    ·obtain⟨_,a,ha2⟩:=(hk.dead hd).field hz.may R.w.symm hk.geo hl
     rw[ha] at ha2
     cases ha2
    ·exact((hk.dead hd).zero i (by omega)).symm
 rw[hp1]
 refine List.ext_getElem (by simp) (fun i h1 h2=> ?_)
 rw[List.getElem_map,List.getElem_range]
 unfold nth
 rw[List.getD_eq_getElem?_getD]
 simp[h2]
theorem RSt.Nn(h:RSt w p c D wr):Calls Tryz.prog 23 #[.pointer (some ⟨p.a,0,none⟩)] wr fun e w'=>e=.returned (.agg #[.int .i64 (c.N:Int),.int .i64 (c.W:Int),.int .i64 (c.R:Int),.int .i64 (c.K:Int)])∧Below wr.heap.size wr w':=by
 obtain⟨zs,m,hG,hR,_⟩:=h
 exact vZ p c ⟨zs,m⟩ wr hG
end
theorem yV(y:Int):∀l:List Int,cntL y l≤l.length
 |[]=>Nat.le_refl _
 |a::l=>by
  have:=yV y l
  unfold cntL
  rw[List.length_cons]
  split<;>omega
theorem sumL_mulle{φ ψ:Th→Nat}(M:Nat):∀{l:List Th},(∀t,t∈liveL l→φ t≤M*ψ t)→sumL φ l≤M*sumL ψ l
 |[],_=>by simp[sumL,liveL]
 |u::l,h=>by
  have h1:=sumL_mulle M (l:=l) (fun t ht=>h t (by rw[live_cons];split;exact ht;exact List.mem_cons_of_mem _ ht))
  rw[sumL_cons,sumL_cons,Nat.mul_add]
  cases hu:u.ended with
  |true=>simp;exact h1
  |false=>
   have h2:=h u (by rw[live_cons,hu];simp)
   simp
   omega
def Ji(w:World)(p:Pl)(c:Cf)(q k:Nat)(D:Wd)(hold:Nat→Nat)(wr:World):Prop:=
 RSt w p c D wr∧dH hold k D∧Blk wr q (arrV (fun i=>.int .i64 ((hold i:Nat):Int)) c.N) 3∧¬ofG p q∧w.heap.size≤q
section
variable {w wr w':World} {p:Pl} {c:Cf} {q k:Nat} {D D':Wd} {hold hold':Nat→Nat} {t:Th} {r x i:Int}
theorem Ji.later(h:Ji w p c q k D hold wr)(hb:Below wr.heap.size wr w'):Ji w p c q k D hold w':=⟨h.1.later hb,h.2.1,h.2.2.1.later hb,h.2.2.2.1,h.2.2.2.2⟩
theorem RSt.nmBd(h:RSt w p c D wr)(S:San D)(y:Int):sumL (nmT y) D.ts≤100000*c.N:=by
 have h1:=h.sizes
 have h2:=h.total S
 refine Nat.le_trans (sumL_mulle (φ:=nmT y) (ψ:=occT) 100000 (fun t ht=> ?_)) (Nat.mul_le_mul_left _ (by omega))
 have h3:nmT y t≤t.pt.length:=yV y t.pt
 have h4:=h1 t ht
 have h5:1≤occT t:=by unfold occT;split<;>omega
 have h6:100000*1≤100000*occT t:=Nat.mul_le_mul_left _ h5
 omega
theorem Ji.refs(h:Ji w p c q k D hold wr)(hN:c.N≤1000)(hk:k≤1000)(ht:t∈D.live):0≤t.mr.refs∧t.mr.refs<4294967295:=by
 have h1:=h.1.nmBd h.2.1.san ((t.h:Int)+1)
 have h2:=h.2.1.nam.cnt t ht
 have h3:=h.2.1.bd t.h
 have h4:100000*c.N≤100000*1000:=Nat.mul_le_mul_left _ hN
 omega
theorem dH.LW(I:dH hold k D){b:Nat}(hb:hold b≠0):∃t,t∈D.live∧t.h=b∧t.mr.dead=false∧t.mr.refs≠0∧D.find ((b:Int)+1)=some t:=by
 have:∃t,t∈D.live∧t.h=b:=by
  apply Classical.byContradiction
  intro hc
  exact hb (I.out b (fun t ht e=>hc ⟨t,ht,e⟩))
 obtain⟨t,ht,rfl⟩:=this
 have h1:=I.nam.cnt t ht
 have h2:t.mr.refs≠0:=by omega
 refine⟨t,ht,rfl,?_,h2,I.san.findIt ht⟩
 cases hd:t.mr.dead with
 |false=>rfl
 |true=>exact absurd (I.nam.zer t ht hd) h2
theorem Ji.does{f:FuncId}{args:List Value}{B:Nat}{v:Value}(h:Ji w p c q k D hold wr)(ha:Does c D f args B D' v)(I:dH hold k D'):
  Calls Tryz.prog f (List.toArray (.pointer (some ⟨p.a,0,none⟩)::args)) wr fun e w'=>e=.returned v∧Ji w p c q k D' hold w'∧Touch (inG p) wr w':=by
 refine(h.1.does ha).mono ?_
 rintro e w' ⟨rfl,h1,hT⟩
 exact⟨rfl,⟨h1,I,h.2.2.1.touch hT (fun hx=>h.2.2.2.1 (Or.inr hx)),h.2.2.2⟩,hT⟩
theorem Ji.put(h:RSt w p c D wr)(I:dH hold' k D)(hb:Blk wr q (arrV (fun i=>.int .i64 ((hold i:Nat):Int)) c.N) 3)(hq:¬ofG p q)(hl:w.heap.size≤q){b:Nat}{v:Int}(hv:v=((hold' b:Nat):Int))(hh:∀h,h≠b→hold' h=hold h):Ji w p c q k D hold' (wr.setCell ⟨q,b,none⟩ (.int .i64 v)):=by
 have hT:=(Touch.refl (fun i=>i=q) wr).setCell (p:=⟨q,b,none⟩) (fun _=>rfl) (.int .i64 v)
 refine⟨h.touch hT (fun i hi e=>hq (e▸hi)) (fun i e=>by rw[e];exact hl),I,?_,hq,hl⟩
 have:=hb.set b (.int .i64 v)
 rw[arrV_set] at this
 rw[show arrV (fun i=>Value.int .i64 ((hold' i:Nat):Int)) c.N=arrV (fun j=>if j=b then Value.int .i64 v else Value.int .i64 ((hold j:Nat):Int)) c.N from arrV_congr (fun j _=>by
  by_cases e:j=b
  ·rw[if_pos e,e,hv]
  ·rw[if_neg e,hh j e])]
 exact this
end
section
variable {w wr:World} {p:Pl} {c:Cf} {q k:Nat} {D:Wd} {hold:Nat→Nat}
end
section
variable {D:Wd} {c:Cf} {w wr:World} {p:Pl} {N k:Nat} {L:List Int} {r:Int} {t:Th}
structure uJ (L:List Int) (D:Wd):Prop where
 san:San D
 nam:Nam (fun _=>0) D
 nd:(D.ts.map Th.h).Nodup
 refs:D.allR=L
theorem uJ.inter(F:uJ L D)(x:Int):uJ L (D.inter x):=⟨F.san.inter x,F.nam.inter F.san x,by rw[inter_hd];exact F.nd,(refs_hd (inter_hd x)).trans F.refs⟩
theorem uJ.step(F:uJ L D):uJ L D.step:=⟨F.san.step,F.nam.step F.san,by rw[yg];exact F.nd,(refs_hd yg).trans F.refs⟩
theorem uJ.sum(F:uJ L D)(φ:Th→Nat):sumK (atD φ D) L L.length=sumL φ D.ts:=by rw[←F.refs];exact sum_refs F.nd φ
theorem uJ.named(F:uJ L D)(hf:D.find r=some t):D.cnt r=((sumK (atD (nmT r) D) L L.length:Nat):Int):=by
 obtain⟨htl,e⟩:=find_live hf
 rw[F.sum]
 unfold Wd.cnt
 rw[hf,←e]
 show t.mr.refs=_
 rw[F.nam.cnt t htl]
 simp
end
end Go.Proofs.YtofhdfjkhfkhiaaGreat.Pk
