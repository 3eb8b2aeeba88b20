/-
  Texts laid together: TagI, GroNil.
-/
import Derived.Test.YtjmifnljckmimaaGreatGroFnEtc
namespace Go.Proofs.YtjmifnljckmimaaGreat.Pk
open Go.RowKit
set_option linter.unusedVariables false
set_option linter.unusedSimpArgs false
def dR(o:Option Nat):Nat:=match o with|some _=>1|none=>0
theorem St.JA(s:St)(o:Option Nat):s.ask o=⟨s.zs,s.m+dR o⟩:=by cases o<;>rfl
theorem oF(o:Option Nat):dR o≤1:=by cases o<;>simp[dR]
def mU(c:Cf)(zs:List Int)(b:Int):Int:=(⟨zs,0⟩:St).at? (az c b 0)
theorem wB{c:Cf}{zs:List Int}{b:Int}(h:¬(0≤b∧b<(c.N:Int))):mU c zs b=0:=by
 unfold mU az kD
 rw[decide_eq_false h];rfl
theorem oV{c:Cf}{zs:List Int}{b:Nat}(hm:c.May)(h:b<c.N):mU c zs (b:Int)=nth zs (adr c b 0):=by
 unfold mU
 have:=gL (c:=c) (b:=b) (v:=0) h (by have:=hm.w;omega)
 rw[show((0:Nat):Int)=0 from rfl] at this
 rw[this];rfl
theorem uH(p:Pl)(c:Cf)(s:St)(b t:Int)(w:World)(hG:G w p c s)(ht:mU c s.zs b=t):
  Calls Tryz.prog 85 #[.pointer (some ⟨p.a,0,none⟩),.int .i64 b,.int .i64 0] w (GP w p c ⟨s.zs,s.m+dR (az c b 0)⟩ (.int .u32 t)):=by
 subst ht
 have h:=wU p c s b 0 w hG
 rw[s.JA] at h
 exact h
theorem Ah{w:World}{p:Pl}{c:Cf}{s:St}(hG:G w p c s)(b:Int):0≤mU c s.zs b∧mU c s.zs b≤4294967295:=St.at?_wf (s:=⟨s.zs,0⟩) hG.wf _
theorem IB(r:Int)(w:World):Calls Tryz.prog 141 #[.pointer none,.int .i64 r] w fun e w'=>e=.returned (.tuple #[.int .i64 0,.bool false])∧w=w':=by
 go_enter Tryz.func141,Tryz.ntmps141
 go_wp2
 go_ret2
 exact⟨rfl,rfl⟩
theorem zV(r:Int)(w:World):Calls Tryz.prog 87 #[.pointer none,.int .i64 r] w fun e w'=>e=.returned (.int .i64 0)∧w=w':=by
 go_enter Tryz.func87,Tryz.ntmps87
 go_wp2_with fail
 refine(IB r _).mono ?_
 rintro e w1 ⟨rfl,rfl⟩
 go_wp2_with fail
 go_ret
 exact⟨rfl,rfl⟩
end Go.Proofs.YtjmifnljckmimaaGreat.Pk
