/-
  Texts laid together: TintActF, TintAllF.
-/
import Derived.Test.YtjmifnljckmimaaGreatTintLikeFEtc
import Derived.RegionTactic
import Derived.Deep.RegionWith
import Derived.Deep.RegionHeld3
namespace Go.Proofs.YtjmifnljckmimaaGreat.Pk
open Go.RowKit
set_option linter.unusedVariables false
set_option linter.unusedSimpArgs false
set_option maxRecDepth 100000
def Qw(w:World)(p:Pl)(c:Cf)(D:Wd)(m:Nat)(wr:World):Prop:=
 ∃zs,G wr p c ⟨zs,m⟩∧aG c zs D∧(∀k,ah p k→w.heap.size≤k)∧Below w.heap.size w wr
def nS(w:World)(p:Pl)(q lo:Nat)(c:Cf)(D D2:Wd)(m:Nat)(wr:World):Prop:=Qw w p c D m wr∧bT wr lo q D2∧(∀i,lo≤i→¬nR p i)∧w.heap.size≤lo
section
variable {w wr w':World} {p:Pl} {q lo m:Nat} {c:Cf} {D D2 D':Wd}
theorem nS.st(h:nS w p q lo c D D2 m wr):qA w p q lo c D D2 wr:=by
 obtain⟨⟨zs,h1,h2,h3,h4⟩,h5⟩:=h
 exact⟨⟨zs,m,h1,h2,h3,h4⟩,h5⟩
theorem qA.sm(h:qA w p q lo c D D2 wr):∃m,nS w p q lo c D D2 m wr:=by
 obtain⟨⟨zs,m,h1,h2,h3,h4⟩,h5⟩:=h
 exact⟨m,⟨zs,h1,h2,h3,h4⟩,h5⟩
theorem nS.later(h:nS w p q lo c D D2 m wr)(hb:Below wr.heap.size wr w'):nS w p q lo c D D2 m w':=by
 obtain⟨⟨zs,h1,h2,h3,h4⟩,h5,h6⟩:=h
 exact⟨⟨zs,h1.later hb,h2,h3,below_step h4 hb⟩,h5.later hb,h6⟩
theorem nS.drew(h:nS w p q lo c D D2 m wr):nS w p q lo c D D2 m wr.drew:=h.later ⟨rfl,rfl,rfl,Nat.le_refl _,fun _ _=>rfl⟩
theorem nS.does{f:FuncId}{args:List Value}{B:Nat}{v:Value}(h:nS w p q lo c D D2 m wr)(ha:Does c D f args B D' v):
  Calls Tryz.prog f (List.toArray (.pointer (some ⟨p.a,0,none⟩)::args)) wr fun e w'=>e=.returned v∧(∃d,d≤B∧nS w p q lo c D' D2 (m+d) w')∧Touch (ah p) wr w':=by
 obtain⟨⟨zs,hG,hR,hp,hB⟩,h5,h6,h7⟩:=h
 obtain⟨zs',⟨d,hd,H⟩,hR'⟩:=ha zs hG.wz hR
 refine(H p m wr hG).mono ?_
 rintro e w' ⟨rfl,hG',hT⟩
 exact⟨rfl,⟨d,hd,⟨zs',hG',hR',hp,hB.trans (hT.below hp hB.size)⟩,h5.touch hT (fun b hb hx=>h6 b hb (Or.inr hx)),h6,h7⟩,hT⟩
theorem nS.world{f:FuncId}{args:Array Value}{v:Value}(h:nS w p q lo c D D2 m wr)(ha:Calls Tryz.prog f args wr (dW wr lo q D' v)):
  Calls Tryz.prog f args wr fun e w'=>e=.returned v∧nS w p q lo c D D' m w':=by
 obtain⟨⟨zs,hG,hR,hp,hB⟩,h5,h6,h7⟩:=h
 refine ha.mono ?_
 rintro e w' ⟨rfl,h2,h3⟩
 exact⟨rfl,⟨zs,hG.touch h3 (fun i hi hx=>h6 i hx hi),hR,hp,hB.trans (h3.below (fun i hi=>Nat.le_trans h7 hi) hB.size)⟩,h2,h6,h7⟩
theorem nS.vP(h:nS w p q lo c D D2 m wr):Calls Tryz.prog 10 #[.pointer (some ⟨p.a,0,none⟩)] wr fun e w'=>e=.returned (.int .u64 (ma m))∧wr=w':=by
 obtain⟨⟨zs,hG,_⟩,_⟩:=h
 exact Iq p c ⟨zs,m⟩ wr hG
theorem nS.box(h:nS w p q lo c D D2 m wr):¬ah p wr.heap.size:=fun hx=>by
 obtain⟨⟨zs,hG,_⟩,_⟩:=h
 have:=hG.fe (Or.inr hx)
 omega
end
section
variable {w wr w':World} {p:Pl} {q lo m:Nat} {c:Cf} {D D2 D':Wd}
theorem bT.AZ(h:bT wr lo q D)(x:Int):bT (wr.setCell ⟨q,2,none⟩ (.int .i64 x)) lo q {D with parity:=x}∧wr.cell? ⟨q,2,none⟩=some (.int .i64 D.parity)∧wr.frozen? ⟨q,2,none⟩=false∧q<wr.heap.size:=by
 obtain⟨lab,a,rfl,k⟩:=h
 exact⟨⟨lab,a,rfl,k.fI (D':={D with parity:=x}) (k:=2) (u:=.int .i64 x) rfl rfl rfl rfl rfl rfl rfl⟩,k.c2,k.wb.free 2,k.wb.lt⟩
end
end Go.Proofs.YtjmifnljckmimaaGreat.Pk
