/-
  Layer 13: an act, both ways: told alike, with so many accesses (over the bundles).
-/
import Derived.Test.YtjmifnljckmimaaGreatRefMkEtc
import Derived.RegionTactic
import Derived.Deep.RegionWith
namespace Go.Proofs.YtjmifnljckmimaaGreat.Pk
open Go.RowKit
set_option linter.unusedVariables false
set_option linter.unusedSimpArgs false
set_option maxRecDepth 100000
def RSm(w:World)(p:Pl)(c:Cf)(D:Wd)(m:Nat)(wr:World):Prop:=
 ∃zs,G wr p c ⟨zs,m⟩∧au c zs D∧(∀k,inG p k→w.heap.size≤k)∧Below w.heap.size w wr
def TSm(w:World)(p:Pl)(q lo:Nat)(c:Cf)(D D2:Wd)(m:Nat)(wr:World):Prop:=RSm w p c D m wr∧WRep wr lo q D2∧(∀i,lo≤i→¬iK p i)∧w.heap.size≤lo
section
variable {w wr w':World} {p:Pl} {q lo m:Nat} {c:Cf} {D D2 D':Wd}
theorem TSm.st(h:TSm w p q lo c D D2 m wr):TSt w p q lo c D D2 wr:=by
 obtain⟨⟨zs,h1,h2,h3,h4⟩,h5⟩:=h
 exact⟨⟨zs,m,h1,h2,h3,h4⟩,h5⟩
theorem TSm.later(h:TSm w p q lo c D D2 m wr)(hb:Below wr.heap.size wr w'):TSm w p q lo c D D2 m w':=by
 obtain⟨⟨zs,h1,h2,h3,h4⟩,h5,h6⟩:=h
 exact⟨⟨zs,h1.later hb,h2,h3,below_step h4 hb⟩,h5.later hb,h6⟩
theorem TSm.drew(h:TSm w p q lo c D D2 m wr):TSm w p q lo c D D2 m wr.drew:=h.later ⟨rfl,rfl,rfl,Nat.le_refl _,fun _ _=>rfl⟩
theorem TSm.does{f:FuncId}{args:List Value}{B:Nat}{v:Value}(h:TSm w p q lo c D D2 m wr)(ha:Does c D f args B D' v):
  Calls Tryz.prog f (List.toArray (.pointer (some ⟨p.a,0,none⟩)::args)) wr fun e w'=>e=.returned v∧(∃d,d≤B∧TSm w p q lo c D' D2 (m+d) w')∧Touch (inG p) wr w':=by
 obtain⟨⟨zs,hG,hR,hp,hB⟩,h5,h6,h7⟩:=h
 obtain⟨zs',⟨d,hd,H⟩,hR'⟩:=ha zs hG.wz hR
 refine(H p m wr hG).mono ?_
 rintro e w' ⟨rfl,hG',hT⟩
 exact⟨rfl,⟨d,hd,⟨zs',hG',hR',hp,hB.trans (hT.below hp hB.size)⟩,h5.touch hT (fun b hb hx=>h6 b hb (Or.inr hx)),h6,h7⟩,hT⟩
theorem TSm.meter(h:TSm w p q lo c D D2 m wr):Calls Tryz.prog 10 #[.pointer (some ⟨p.a,0,none⟩)] wr fun e w'=>e=.returned (.int .u64 (u64m m))∧wr=w':=by
 obtain⟨⟨zs,hG,_⟩,_⟩:=h
 exact Ex p c ⟨zs,m⟩ wr hG
theorem TSm.box(h:TSm w p q lo c D D2 m wr):¬inG p wr.heap.size:=fun hx=>by
 obtain⟨⟨zs,hG,_⟩,_⟩:=h
 have:=hG.dG (Or.inr hx)
 omega
end
end Go.Proofs.YtjmifnljckmimaaGreat.Pk
