/-
  Stage 12's law of the whole: objects in the ring, counted, with their fields, each without the other (of packages pool, obj, ring and count that do what they must).
-/
import Derived.Test.YtofhdfjkhfkhiaaGreatChainsEtc
import Derived.Test.YtofhdfjkhfkhiaaGreatChainsEtc
import Derived.Test.YtofhdfjkhfkhiaaGreatPoolDoEtc
import Derived.Test.YtofhdfjkhfkhiaaGreatChainsEtc
import Derived.Test.YtofhdfjkhfkhiaaGreatChainsEtc
import Derived.Test.YtofhdfjkhfkhiaaGreatObjWholeFEtc
namespace Go.Proofs.YtofhdfjkhfkhiaaGreat.Pk
open Go.RowKit
set_option linter.unusedVariables false
set_option linter.unusedSimpArgs false
structure Sn where
 (a1:Option Addr) (c1 n1:Nat) (a2:Option Addr) (c2 n2:Nat)
def Sn.cells(s:Sn):List Value:=[.slice s.a1 s.n1 s.c1,.slice s.a2 s.n2 s.c2]
def Oo(w:World)(lo:Nat)(zs:List Int)(o:Ob)(s:Sn):Prop:=
 s.n1=o.np∧s.n2=o.nd∧OwnR w .i64 s.a1 (jw (cfR 60) zs o)∧OwnR w .u32 s.a2 (eY (cfR 60) zs o)∧(∀b off,s.a1=some ⟨b,off,none⟩→lo≤b)∧(∀b off,s.a2=some ⟨b,off,none⟩→lo≤b)
theorem Oo.touch{X:Nat→Prop}{w w':World}{lo:Nat}{zs:List Int}{o:Ob}{s:Sn}(h:Oo w lo zs o s)(t:Touch X w w')(h1:RowOut X s.a1 (jw (cfR 60) zs o))(h2:RowOut X s.a2 (eY (cfR 60) zs o)):Oo w' lo zs o s:=
 ⟨h.1,h.2.1,h.2.2.1.touch t h1,h.2.2.2.1.touch t h2,h.2.2.2.2⟩
def Uj(w:World)(lo:Nat)(zs:List Int)(os:List Ob)(v:Value)(ss:List Sn):Prop:=
 w.ownsRow lo 76 2 v ss.length (ss.flatMap Sn.cells)∧(ss=[]→v=.slice none 0 0)∧∀(j:Nat) o s,os[j]? =some o→ss[j]? =some s→Oo w lo zs o s
theorem Uj.touch{X:Nat→Prop}{w w':World}{lo:Nat}{zs:List Int}{os:List Ob}{v:Value}{ss:List Sn}(h:Uj w lo zs os v ss)(t:Touch X w w')(hX:∀b,lo≤b→¬X b):Uj w' lo zs os v ss:=
 ⟨JQ h.1 t hX,h.2.1,fun j o s h1 h2=>(h.2.2 j o s h1 h2).touch t (fun _ b off e=>hX b ((h.2.2 j o s h1 h2).2.2.2.2.1 b off e)) (fun _ b off e=>hX b ((h.2.2 j o s h1 h2).2.2.2.2.2 b off e))⟩
def Kept(c:Cf)(os:List Ob)(zs zs':List Int):Prop:=∀o i,o∈os→i<o.f→fH c zs' o i=fH c zs o i
def Ol(c:Cf)(os:List Ob)(zs zs':List Int):Prop:=∀o,o∈os→nth zs' (ae c o.h 3)=nth zs (ae c o.h 3)
def Oj(w:World)(p:Pl)(c:Cf)(zs:List Int)(pool:List Nat)(os:List Ob)(wr w':World):Prop:=
 ∃zs' l',pU w p c zs' pool os w'∧RingAt c zs' l'∧Kept c os zs zs'∧Ol c os zs zs'∧Touch (inG p) wr w'
section
variable {w wr:World} {p:Pl} {c:Cf} {zs:List Int} {pool l:List Nat} {os:List Ob} {o:Ob}
end
def Sz(w:World)(p:Pl)(zs:List Int)(pool:List Nat)(os:List Ob)(q:Nat)(w5:World)(j:Nat)(wr:World):Prop:=
 ∃(zs':List Int) (l:List Nat) (f:Nat→Nat),pU w p (cfR 60) zs' pool os wr∧RingAt (cfR 60) zs' l∧Kept (cfR 60) os zs zs'∧(∀(t:Nat) o,os[t]? =some o→nth zs' (ae (cfR 60) o.h 3)=(f t:Int))∧(∀t,f t≤j)∧
  Blk wr q (arrV (fun t=>.int .i64 ((f t:Nat):Int)) os.length) 3∧Touch (fun i=>inG p i∨i=q) w5 wr
theorem Kept.trans{c:Cf}{os:List Ob}{a b d:List Int}(h:Kept c os a b)(k:Kept c os b d):Kept c os a d:=fun o i h1 h2=>(k o i h1 h2).trans (h o i h1 h2)
theorem Sz.ring{w:World}{p:Pl}{zs zs':List Int}{pool:List Nat}{os:List Ob}{q:Nat}{w5:World}{j:Nat}{f:Nat→Nat}{wr w':World}(hK:Kept (cfR 60) os zs zs')(hf:∀(t:Nat) o,os[t]? =some o→nth zs' (ae (cfR 60) o.h 3)=(f t:Int))(hj:∀t,f t≤j)(hb:Blk wr q (arrV (fun t=>.int .i64 ((f t:Nat):Int)) os.length) 3)(hq:¬inG p q)(hT:Touch (fun i=>inG p i∨i=q) w5 wr)
  (h:Oj w p (cfR 60) zs' pool os wr w'):Sz w p zs pool os q w5 (j+1) w':=by
 obtain⟨z,l',hS,hR,k1,k2,t⟩:=h
 exact⟨z,l',f,hS,hR,hK.trans k1,fun t o ho=>by rw[k2 o (List.mem_of_getElem? ho)];exact hf t o ho,fun t=>by have:=hj t;omega,hb.touch t hq,hT.trans (t.mono (fun _ _ h=>Or.inl h))⟩
end Go.Proofs.YtofhdfjkhfkhiaaGreat.Pk
