/-
  Stage 12's law of the whole: objects in the ring, counted, with their fields, each without the other (of packages pool, obj, ring and count that do what they must).
-/
import Derived.Test.YtjmifnljckmimaaGreatChainsEtc
import Derived.Test.YtjmifnljckmimaaGreatChainsEtc
import Derived.Test.YtjmifnljckmimaaGreatPoolDoEtc
import Derived.Test.YtjmifnljckmimaaGreatChainsEtc
import Derived.Test.YtjmifnljckmimaaGreatChainsEtc
import Derived.Test.YtjmifnljckmimaaGreatObjWholeFEtc
namespace Go.Proofs.YtjmifnljckmimaaGreat.Pk
open Go.RowKit
set_option linter.unusedVariables false
set_option linter.unusedSimpArgs false
structure Sn where
 (a1:Option Addr) (c1 n1:Nat) (a2:Option Addr) (c2 n2:Nat)
def Sn.cells(s:Sn):List Value:=[.slice s.a1 s.n1 s.c1,.slice s.a2 s.n2 s.c2]
def MG(w:World)(lo:Nat)(zs:List Int)(o:Ob)(s:Sn):Prop:=
 s.n1=o.np∧s.n2=o.nd∧iA w .i64 s.a1 (jl (cfR 60) zs o)∧iA w .u32 s.a2 (fe (cfR 60) zs o)∧(∀b off,s.a1=some ⟨b,off,none⟩→lo≤b)∧(∀b off,s.a2=some ⟨b,off,none⟩→lo≤b)
theorem MG.touch{X:Nat→Prop}{w w':World}{lo:Nat}{zs:List Int}{o:Ob}{s:Sn}(h:MG w lo zs o s)(t:Touch X w w')(h1:iW X s.a1 (jl (cfR 60) zs o))(h2:iW X s.a2 (fe (cfR 60) zs o)):MG w' lo zs o s:=
 ⟨h.1,h.2.1,h.2.2.1.touch t h1,h.2.2.2.1.touch t h2,h.2.2.2.2⟩
def RG(w:World)(lo:Nat)(zs:List Int)(os:List Ob)(v:Value)(ss:List Sn):Prop:=
 w.ownsRow lo 57 2 v ss.length (ss.flatMap Sn.cells)∧(ss=[]→v=.slice none 0 0)∧∀(j:Nat) o s,os[j]? =some o→ss[j]? =some s→MG w lo zs o s
theorem RG.touch{X:Nat→Prop}{w w':World}{lo:Nat}{zs:List Int}{os:List Ob}{v:Value}{ss:List Sn}(h:RG w lo zs os v ss)(t:Touch X w w')(hX:∀b,lo≤b→¬X b):RG w' lo zs os v ss:=
 ⟨lC h.1 t hX,h.2.1,fun j o s h1 h2=>(h.2.2 j o s h1 h2).touch t (fun _ b off e=>hX b ((h.2.2 j o s h1 h2).2.2.2.2.1 b off e)) (fun _ b off e=>hX b ((h.2.2 j o s h1 h2).2.2.2.2.2 b off e))⟩
theorem Ni:(Tryz.prog.info? 57).map (fun i=>(i.zero,i.size,i.bytes))=some (some (.agg #[.slice none 0 0,.slice none 0 0]),2,48):=by kernel_rfl
def Kept(c:Cf)(os:List Ob)(zs zs':List Int):Prop:=∀o i,o∈os→i<o.f→fK c zs' o i=fK c zs o i
def MF(c:Cf)(os:List Ob)(zs zs':List Int):Prop:=∀o,o∈os→nth zs' (adr c o.h 3)=nth zs (adr c o.h 3)
def MC(w:World)(p:Pl)(c:Cf)(zs:List Int)(pool:List Nat)(os:List Ob)(wr w':World):Prop:=
 ∃zs' l',HSt w p c zs' pool os w'∧RingAt c zs' l'∧Kept c os zs zs'∧MF c os zs zs'∧Touch (inG p) wr w'
section
variable {w wr:World} {p:Pl} {c:Cf} {zs:List Int} {pool l:List Nat} {os:List Ob} {o:Ob}
end
def QA(w:World)(p:Pl)(zs:List Int)(pool:List Nat)(os:List Ob)(q:Nat)(w5:World)(j:Nat)(wr:World):Prop:=
 ∃(zs':List Int) (l:List Nat) (f:Nat→Nat),HSt w p (cfR 60) zs' pool os wr∧RingAt (cfR 60) zs' l∧Kept (cfR 60) os zs zs'∧(∀(t:Nat) o,os[t]? =some o→nth zs' (adr (cfR 60) o.h 3)=(f t:Int))∧(∀t,f t≤j)∧
  Blk wr q (ek (fun t=>.int .i64 ((f t:Nat):Int)) os.length) 3∧Touch (fun i=>inG p i∨i=q) w5 wr
theorem Kept.trans{c:Cf}{os:List Ob}{a b d:List Int}(h:Kept c os a b)(k:Kept c os b d):Kept c os a d:=fun o i h1 h2=>(k o i h1 h2).trans (h o i h1 h2)
theorem QA.ring{w:World}{p:Pl}{zs zs':List Int}{pool:List Nat}{os:List Ob}{q:Nat}{w5:World}{j:Nat}{f:Nat→Nat}{wr w':World}(hK:Kept (cfR 60) os zs zs')(hf:∀(t:Nat) o,os[t]? =some o→nth zs' (adr (cfR 60) o.h 3)=(f t:Int))(hj:∀t,f t≤j)(hb:Blk wr q (ek (fun t=>.int .i64 ((f t:Nat):Int)) os.length) 3)(hq:¬inG p q)(hT:Touch (fun i=>inG p i∨i=q) w5 wr)
  (h:MC w p (cfR 60) zs' pool os wr w'):QA w p zs pool os q w5 (j+1) w':=by
 obtain⟨z,l',hS,hR,k1,k2,t⟩:=h
 exact⟨z,l',f,hS,hR,hK.trans k1,fun t o ho=>by rw[k2 o (List.mem_of_getElem? ho)];exact hf t o ho,fun t=>by have:=hj t;omega,hb.touch t hq,hT.trans (t.mono (fun _ _ h=>Or.inl h))⟩
end Go.Proofs.YtjmifnljckmimaaGreat.Pk
