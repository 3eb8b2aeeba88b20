/-
  What stands in a block's tag; nothing where there is no block.
-/
import Derived.Test.YtbhhfnlkpieebaaGreatGroFnEtc
namespace Go.Proofs.YtbhhfnlkpieebaaGreat.Pk
open Go.RowKit
set_option linter.unusedVariables false
set_option linter.unusedSimpArgs false
def eu(o:Option Nat):Nat:=match o with|some _=>1|none=>0
theorem St.Ib(s:St)(o:Option Nat):s.ask o=⟨s.zs,s.m+eu o⟩:=by cases o<;>rfl
theorem yN(o:Option Nat):eu o≤1:=by cases o<;>simp[eu]
def nE(c:Cf)(zs:List Int)(b:Int):Int:=(⟨zs,0⟩:St).at? (aF c b 0)
theorem Cc{c:Cf}{zs:List Int}{b:Int}(h:¬(0≤b∧b<(c.N:Int))):nE c zs b=0:=by
 unfold nE aF jP
 rw[decide_eq_false h];rfl
theorem oQ{c:Cf}{zs:List Int}{b:Nat}(hm:c.May)(h:b<c.N):nE c zs (b:Int)=nth zs (ae c b 0):=by
 unfold nE
 have:=gL (c:=c) (b:=b) (v:=0) h (by have:=hm.w;omega)
 rw[show((0:Nat):Int)=0 from rfl] at this
 rw[this];rfl
theorem uJ(p:Pl)(c:Cf)(s:St)(b t:Int)(w:World)(hG:G w p c s)(ht:nE c s.zs b=t):
  Calls Tryz.prog 100 #[.pointer (some ⟨p.a,0,none⟩),.int .i64 b,.int .i64 0] w (GP w p c ⟨s.zs,s.m+eu (aF c b 0)⟩ (.int .u32 t)):=by
 subst ht
 have h:=wM p c s b 0 w hG
 rw[s.Ib] at h
 exact h
theorem zF{w:World}{p:Pl}{c:Cf}{s:St}(hG:G w p c s)(b:Int):0≤nE c s.zs b∧nE c s.zs b≤4294967295:=St.at?_wf (s:=⟨s.zs,0⟩) hG.wf _
end Go.Proofs.YtbhhfnlkpieebaaGreat.Pk
