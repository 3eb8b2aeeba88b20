/-
  Texts laid together: TagI, GroNil.
-/
import Derived.Test.YtbfdimibehkbjaaGreatGroFnEtc
namespace Go.Proofs.YtbfdimibehkbjaaGreat.Pk
open Go.RowKit
set_option linter.unusedVariables false
set_option linter.unusedSimpArgs false
def fe(o:Option Nat):Nat:=match o with|some _=>1|none=>0
theorem St.JF(s:St)(o:Option Nat):s.ask o=⟨s.zs,s.m+fe o⟩:=by cases o<;>rfl
theorem vH(o:Option Nat):fe o≤1:=by cases o<;>simp[fe]
def nJ(c:Cf)(zs:List Int)(b:Int):Int:=(⟨zs,0⟩:St).at? (aF c b 0)
theorem xq{c:Cf}{zs:List Int}{b:Int}(h:¬(0≤b∧b<(c.N:Int))):nJ c zs b=0:=by
 unfold nJ aF lg
 rw[decide_eq_false h];rfl
theorem pY{c:Cf}{zs:List Int}{b:Nat}(hm:c.May)(h:b<c.N):nJ c zs (b:Int)=nth zs (adr c b 0):=by
 unfold nJ
 have:=iq (c:=c) (b:=b) (v:=0) h (by have:=hm.w;omega)
 rw[show((0:Nat):Int)=0 from rfl] at this
 rw[this];rfl
theorem vR(p:Pl)(c:Cf)(s:St)(b t:Int)(w:World)(hG:G w p c s)(ht:nJ c s.zs b=t):
  Calls Tryz.prog 88 #[.pointer (some ⟨p.a,0,none⟩),.int .i64 b,.int .i64 0] w (GP w p c ⟨s.zs,s.m+fe (aF c b 0)⟩ (.int .u32 t)):=by
 subst ht
 have h:=xK p c s b 0 w hG
 rw[s.JF] at h
 exact h
theorem Ar{w:World}{p:Pl}{c:Cf}{s:St}(hG:G w p c s)(b:Int):0≤nJ c s.zs b∧nJ c s.zs b≤4294967295:=St.at?_wf (s:=⟨s.zs,0⟩) hG.wf _
theorem IG(r:Int)(w:World):Calls Tryz.prog 141 #[.pointer none,.int .i64 r] w fun e w'=>e=.returned (.tuple #[.int .i64 0,.bool false])∧w=w':=by
 go_enter Tryz.func141,Tryz.ntmps141
 go_wp2
 go_ret2
 exact⟨rfl,rfl⟩
theorem Nl(r:Int)(w:World):Calls Tryz.prog 85 #[.pointer none,.int .i64 r] w fun e w'=>e=.returned (.int .i64 0)∧w=w':=by
 go_enter Tryz.func85,Tryz.ntmps85
 go_wp2_with fail
 refine(IG r _).mono ?_
 rintro e w1 ⟨rfl,rfl⟩
 go_wp2_with fail
 go_ret
 exact⟨rfl,rfl⟩
end Go.Proofs.YtbfdimibehkbjaaGreat.Pk
