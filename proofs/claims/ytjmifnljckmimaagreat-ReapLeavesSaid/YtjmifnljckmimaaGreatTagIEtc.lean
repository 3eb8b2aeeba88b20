/-
  What stands in a block's tag; nothing where there is no block.
-/
import Derived.Test.YtjmifnljckmimaaGreatGroFnEtc
namespace Go.Proofs.YtjmifnljckmimaaGreat.Pk
open Go.RowKit
set_option linter.unusedVariables false
set_option linter.unusedSimpArgs false
def dF(o:Option Nat):Nat:=match o with|some _=>1|none=>0
theorem St.JZ(s:St)(o:Option Nat):s.ask o=⟨s.zs,s.m+dF o⟩:=by cases o<;>rfl
theorem lU(o:Option Nat):dF o≤1:=by cases o<;>simp[dF]
def mH(c:Cf)(zs:List Int)(b:Int):Int:=(⟨zs,0⟩:St).at? (aB c b 0)
theorem wI{c:Cf}{zs:List Int}{b:Int}(h:¬(0≤b∧b<(c.N:Int))):mH c zs b=0:=by
 unfold mH aB jG
 rw[decide_eq_false h];rfl
theorem oQ{c:Cf}{zs:List Int}{b:Nat}(hm:c.May)(h:b<c.N):mH c zs (b:Int)=nth zs (adr c b 0):=by
 unfold mH
 have:=fQ (c:=c) (b:=b) (v:=0) h (by have:=hm.w;omega)
 rw[show((0:Nat):Int)=0 from rfl] at this
 rw[this];rfl
theorem uR(p:Pl)(c:Cf)(s:St)(b t:Int)(w:World)(hG:G w p c s)(ht:mH c s.zs b=t):
  Calls Tryz.prog 85 #[.pointer (some ⟨p.a,0,none⟩),.int .i64 b,.int .i64 0] w (GP w p c ⟨s.zs,s.m+dF (aB c b 0)⟩ (.int .u32 t)):=by
 subst ht
 have h:=xc p c s b 0 w hG
 rw[s.JZ] at h
 exact h
theorem AU{w:World}{p:Pl}{c:Cf}{s:St}(hG:G w p c s)(b:Int):0≤mH c s.zs b∧mH c s.zs b≤4294967295:=St.at?_wf (s:=⟨s.zs,0⟩) hG.wf _
end Go.Proofs.YtjmifnljckmimaaGreat.Pk
