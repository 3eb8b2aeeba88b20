/-
  Stage 12's law of the whole: objects in the ring, counted, with their fields, each without the other (of packages pool, obj, ring and count that do what they must).
-/
import Derived.Test.YtjmifnljckmimaaGreatPoolDoEtc
import Derived.Test.YtjmifnljckmimaaGreatChainsEtc
import Derived.Test.YtjmifnljckmimaaGreatChainsEtc
import Derived.Test.YtjmifnljckmimaaGreatObjWholeFEtc
namespace Go.Proofs.YtjmifnljckmimaaGreat.Pk
open Go.RowKit
set_option linter.unusedVariables false
set_option linter.unusedSimpArgs false
structure Sn where
 (a1:Option Addr) (c1 n1:Nat) (a2:Option Addr) (c2 n2:Nat)
def Sn.cells(s:Sn):List Value:=[.slice s.a1 s.n1 s.c1,.slice s.a2 s.n2 s.c2]
theorem uQ(ss:List Sn){u:Value}(h:(ss.flatMap Sn.cells)[0]? =some u):∃a n c,u=.slice a n c:=by
 cases ss with
 |nil=>simp at h
 |cons s t=>simp[Sn.cells] at h;exact⟨_,_,_,h.symm⟩
theorem own_ne{w:World}{base:Nat}{e:TypeId}{v:Value}{n:Nat}{xs:List Value}{k:IntKind}{a:Option Addr}{zs:List Int}(h:w.ownsRow base e 2 v n xs)(hx:∀u,xs[0]? =some u→∃p q r,u=.slice p q r)(hn:n≠0∨v=.slice none 0 0)(hr:dR w k a zs):gH (fun b=>v.ownBlock=some b) a zs:=by
 intro h0 b off ha hb
 rcases hr with hr|⟨b',cs,t,e',hblk,hc⟩
 ·omega
 ·rw[ha] at e'
  cases e'
  rcases hn with hn|rfl
  ·rcases h.2 with⟨rfl,_⟩|⟨g,cap,cur,rfl,_,hg,_,_,hcs,ht⟩
   ·cases hb
   ·have hgb:g=b:=by simpa[Value.ownBlock] using hb
    subst hgb
    unfold Blk at hblk
    rw[hg] at hblk
    simp at hblk
    obtain⟨rfl,_⟩:=hblk
    have h1:=hc 0 h0
    have h2:xs[0]? =some (.int k (nth zs 0)):=by
     rw[←ht,List.getElem?_take,if_pos (by omega),←h1]
     simp
    obtain⟨_,_,_,e3⟩:=hx _ h2
    cases e3
  ·cases hb
def Em(w:World)(lo:Nat)(zs:List Int)(o:Ob)(s:Sn):Prop:=
 s.n1=o.np∧s.n2=o.nd∧dR w .i64 s.a1 (jg (cfR 60) zs o)∧dR w .u32 s.a2 (eY (cfR 60) zs o)∧(∀b off,s.a1=some ⟨b,off,none⟩→lo≤b)∧(∀b off,s.a2=some ⟨b,off,none⟩→lo≤b)
theorem Em.touch{X:Nat→Prop}{w w':World}{lo:Nat}{zs:List Int}{o:Ob}{s:Sn}(h:Em w lo zs o s)(t:Touch X w w')(h1:gH X s.a1 (jg (cfR 60) zs o))(h2:gH X s.a2 (eY (cfR 60) zs o)):Em w' lo zs o s:=
 ⟨h.1,h.2.1,h.2.2.1.touch t h1,h.2.2.2.1.touch t h2,h.2.2.2.2⟩
def Ql(w:World)(lo:Nat)(zs:List Int)(os:List Ob)(v:Value)(ss:List Sn):Prop:=
 w.ownsRow lo 57 2 v ss.length (ss.flatMap Sn.cells)∧(ss=[]→v=.slice none 0 0)∧∀(j:Nat) o s,os[j]? =some o→ss[j]? =some s→Em w lo zs o s
theorem Ql.touch{X:Nat→Prop}{w w':World}{lo:Nat}{zs:List Int}{os:List Ob}{v:Value}{ss:List Sn}(h:Ql w lo zs os v ss)(t:Touch X w w')(hX:∀b,lo≤b→¬X b):Ql w' lo zs os v ss:=
 ⟨lG h.1 t hX,h.2.1,fun j o s h1 h2=>(h.2.2 j o s h1 h2).touch t (fun _ b off e=>hX b ((h.2.2 j o s h1 h2).2.2.2.2.1 b off e)) (fun _ b off e=>hX b ((h.2.2 j o s h1 h2).2.2.2.2.2 b off e))⟩
theorem Ql.more{w w':World}{lo:Nat}{zs:List Int}{os:List Ob}{v v':Value}{ss:List Sn}{o:Ob}{s:Sn}{ob:Obj}{n:Nat}(h:Ql w lo zs os v ss)(hn':ss.length=n)(ho:os[n]? =some o)(hs:Em w lo zs o s)(hown:w'.ownsRow lo 57 2 v' (n+1) (ss.flatMap Sn.cells++s.cells))(hg:(w.alloc ob).grownBy w' v.ownBlock):Ql w' lo zs os v' (ss++[s]):=by
 subst hn'
 have hT:Touch (fun b=>v.ownBlock=some b) w w':=⟨hg.os,hg.tape,hg.output,by have:=hg.size;simp at this;omega,fun k hk hx=>(hg.block k (by simp;omega) (fun e=>hx e.symm)).trans (Below.heap_alloc _ _ _ hk)⟩
 have hn:ss.length≠0∨v=.slice none 0 0:=by
  by_cases e:ss=[]
  ·exact .inr (h.2.1 e)
  ·exact .inl (fun e2=>e (List.length_eq_zero_iff.1 e2))
 have hk:∀o s,Em w lo zs o s→Em w' lo zs o s:=fun o s k=>k.touch hT (own_ne h.1 (fun u hu=>uQ ss hu) hn k.2.2.1) (own_ne h.1 (fun u hu=>uQ ss hu) hn k.2.2.2.1)
 refine⟨by simpa[Sn.cells] using hown,by simp,fun j o' s' h1 h2=> ?_⟩
 by_cases hj:j<ss.length
 ·rw[List.getElem?_append_left hj] at h2
  exact hk _ _ (h.2.2 j o' s' h1 h2)
 ·rw[List.getElem?_append_right (by omega)] at h2
  have hj2:j=ss.length:=by
   have:=(List.getElem?_eq_some_iff.1 h2).1
   simp at this
   omega
  subst hj2
  rw[ho] at h1
  cases h1
  simp at h2
  subst h2
  exact hk _ _ hs
theorem MO:(Tryz.prog.info? 57).map (fun i=>(i.zero,i.size,i.bytes))=some (some (.agg #[.slice none 0 0,.slice none 0 0]),2,48):=by kernel_rfl
def Kept(c:Cf)(os:List Ob)(zs zs':List Int):Prop:=∀o i,o∈os→i<o.f→dS c zs' o i=dS c zs o i
def Mo(c:Cf)(os:List Ob)(zs zs':List Int):Prop:=∀o,o∈os→nth zs' (adr c o.h 3)=nth zs (adr c o.h 3)
def Ml(w:World)(p:Pl)(c:Cf)(zs:List Int)(pool:List Nat)(os:List Ob)(wr w':World):Prop:=
 ∃zs' l',HSt w p c zs' pool os w'∧RingAt c zs' l'∧Kept c os zs zs'∧Mo c os zs zs'∧Touch (inG p) wr w'
section
variable {w wr:World} {p:Pl} {c:Cf} {zs:List Int} {pool l:List Nat} {os:List Ob} {o:Ob}
end
def Qu(w:World)(p:Pl)(zs:List Int)(pool:List Nat)(os:List Ob)(q:Nat)(w5:World)(j:Nat)(wr:World):Prop:=
 ∃(zs':List Int) (l:List Nat) (f:Nat→Nat),HSt w p (cfR 60) zs' pool os wr∧RingAt (cfR 60) zs' l∧Kept (cfR 60) os zs zs'∧(∀(t:Nat) o,os[t]? =some o→nth zs' (adr (cfR 60) o.h 3)=(f t:Int))∧(∀t,f t≤j)∧
  Blk wr q (dA (fun t=>.int .i64 ((f t:Nat):Int)) os.length) 3∧Touch (fun i=>inG p i∨i=q) w5 wr
theorem Kept.trans{c:Cf}{os:List Ob}{a b d:List Int}(h:Kept c os a b)(k:Kept c os b d):Kept c os a d:=fun o i h1 h2=>(k o i h1 h2).trans (h o i h1 h2)
theorem Qu.ring{w:World}{p:Pl}{zs zs':List Int}{pool:List Nat}{os:List Ob}{q:Nat}{w5:World}{j:Nat}{f:Nat→Nat}{wr w':World}(hK:Kept (cfR 60) os zs zs')(hf:∀(t:Nat) o,os[t]? =some o→nth zs' (adr (cfR 60) o.h 3)=(f t:Int))(hj:∀t,f t≤j)(hb:Blk wr q (dA (fun t=>.int .i64 ((f t:Nat):Int)) os.length) 3)(hq:¬inG p q)(hT:Touch (fun i=>inG p i∨i=q) w5 wr)
  (h:Ml w p (cfR 60) zs' pool os wr w'):Qu w p zs pool os q w5 (j+1) w':=by
 obtain⟨z,l',hS,hR,k1,k2,t⟩:=h
 exact⟨z,l',f,hS,hR,hK.trans k1,fun t o ho=>by rw[k2 o (List.mem_of_getElem? ho)];exact hf t o ho,fun t=>by have:=hj t;omega,hb.touch t hq,hT.trans (t.mono (fun _ _ h=>Or.inl h))⟩
end Go.Proofs.YtjmifnljckmimaaGreat.Pk
