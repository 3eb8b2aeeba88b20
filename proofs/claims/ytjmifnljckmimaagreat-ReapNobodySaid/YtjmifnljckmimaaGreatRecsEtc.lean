/-
  An argument that is a slice of structs whose fields are numbers, truth values, and slices of numbers: what its cells hold. No program in sight.
-/
import Derived.Test.YtjmifnljckmimaaGreatBaseEtc
import Derived.Deep.Slices
import Derived.Deep.Fields
import Derived.ChangeSame
import Derived.ChangeSlices
namespace Go.Proofs.YtjmifnljckmimaaGreat.Pk
open Go.RowKit Go.ChangeShapes Go.WideShapes Go.Deep
set_option linter.unusedVariables false
set_option linter.unusedSimpArgs false
inductive Kd where
 |int (k:IntKind)
 |bool
 |ints (k:IntKind)
inductive Fld where
 |int (k:IntKind) (n:Int)
 |bool (b:Bool)
 |ints (k:IntKind) (a:Option Addr) (cap:Nat) (zs:List Int)
def Fld.kd:Fld→Kd
 | .int k _=>.int k
 | .bool _=>.bool
 | .ints k _ _ _=>.ints k
def Fld.val:Fld→Value
 | .int k n=>.int k n
 | .bool b=>.bool b
 | .ints _ a cap zs=>.slice a zs.length cap
def Fld.ok(w:World):Fld→Prop
 | .int k n=>(Lit.int k n).wf=true
 | .bool _=>True
 | .ints k a _ zs=>Row w k a zs∧(∀n∈zs,(Lit.int k n).wf=true)∧zs.length≤maxLen
theorem Fld.KF{w w':World}(hb:Below w.heap.size w w'){f:Fld}(h:f.ok w):f.ok w':=by
 cases f with
 |int k n=>exact h
 |bool b=>trivial
 |ints k a cap zs=>exact⟨h.1.later hb,h.2⟩
def Recs(w:World)(a:Option Addr)(ks:List Kd)(rs:List (List Fld)):Prop:=
 ∀(k:Nat) (r:List Fld),rs[k]? =some r→r.map Fld.kd=ks∧∃b off,a=some ⟨b,off,none⟩∧b<w.heap.size∧∀(j:Nat) (f:Fld),r[j]? =some f→w.cell? ⟨b,off+k*ks.length+j,none⟩=some f.val∧f.ok w
theorem Recs.nil(w:World)(a:Option Addr)(ks:List Kd):Recs w a ks []:=fun _ _ h=>by simp at h
theorem Recs.later{w w':World}{a:Option Addr}{ks:List Kd}{rs:List (List Fld)}(h:Recs w a ks rs)(hb:Below w.heap.size w w'):Recs w' a ks rs:=by
 intro k r hr
 obtain⟨h1,b,off,ha,hlt,hc⟩:=h k r hr
 refine⟨h1,b,off,ha,Nat.lt_of_lt_of_le hlt hb.size,fun j f hf=> ?_⟩
 obtain⟨h2,h3⟩:=hc j f hf
 exact⟨(hb.cell (p:=⟨b,off+k*ks.length+j,none⟩) hlt).trans h2,Fld.KF hb h3⟩
section
variable {H:Type} {enc:TypeId × Value→H} {P:Program} {W:World}
end
end Go.Proofs.YtjmifnljckmimaaGreat.Pk
