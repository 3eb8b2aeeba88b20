/-
  Texts laid together: Recs, Flat.
-/
import Derived.Test.YtjmifnljckmimaaGreatBaseEtc
import Derived.Deep.Slices
import Derived.Deep.Fields
import Derived.ChangeSame
import Derived.ChangeSlices
namespace Go.Proofs.YtjmifnljckmimaaGreat.Pk
open Go.RowKit Go.ChangeShapes Go.WideShapes Go.Deep
set_option linter.unusedVariables false
set_option linter.unusedSimpArgs false
inductive Kd where
 |int (k:IntKind)
 |bool
 |ints (k:IntKind)
inductive mW where
 |int (k:IntKind) (n:Int)
 |bool (b:Bool)
 |ints (k:IntKind) (a:Option Addr) (cap:Nat) (zs:List Int)
def mW.kd:mW→Kd
 | .int k _=>.int k
 | .bool _=>.bool
 | .ints k _ _ _=>.ints k
def mW.val:mW→Value
 | .int k n=>.int k n
 | .bool b=>.bool b
 | .ints _ a cap zs=>.slice a zs.length cap
def mW.ok(w:World):mW→Prop
 | .int k n=>(Lit.int k n).wf=true
 | .bool _=>True
 | .ints k a _ zs=>Row w k a zs∧(∀n∈zs,(Lit.int k n).wf=true)∧zs.length≤maxLen
def yV(w:World)(a:Option Addr)(ks:List Kd)(rs:List (List mW)):Prop:=
 ∀(k:Nat) (r:List mW),rs[k]? =some r→r.map mW.kd=ks∧∃b off,a=some ⟨b,off,none⟩∧b<w.heap.size∧∀(j:Nat) (f:mW),r[j]? =some f→w.cell? ⟨b,off+k*ks.length+j,none⟩=some f.val∧f.ok w
theorem yV.nil(w:World)(a:Option Addr)(ks:List Kd):yV w a ks []:=fun _ _ h=>by simp at h
theorem Rj{α:Type}{p:Nat→α→Prop}:∀(m:Nat),(∀i,i<m→∃x,p i x)→∃l:List α,l.length=m∧∀i x,l[i]? =some x→p i x:=by
 intro m
 induction m with
 |zero=>exact fun _=>⟨[],rfl,fun i x h=>by simp at h⟩
 |succ m ih=>
  intro h
  obtain⟨l,hl,hp⟩:=ih fun i hi=>h i (by omega)
  obtain⟨x,hx⟩:=h m (by omega)
  refine⟨l++[x],by simp[hl],fun i y hy=> ?_⟩
  by_cases hi:i<m
  ·rw[List.getElem?_append_left (by omega)] at hy
   exact hp i y hy
  ·rw[List.getElem?_append_right (by omega)] at hy
   have:i-l.length=0:=by
    by_cases h0:i-l.length=0
    ·exact h0
    ·rw[List.getElem?_eq_none (by simp;omega)] at hy;cases hy
   rw[this] at hy
   have him:i=m:=by omega
   subst him
   simp at hy
   subst hy
   exact hx
def Va(P:Program)(t:TypeId):Kd→Prop
 | .int k=>P.underlying t=some (.int k)
 | .bool=>P.underlying t=some .bool
 | .ints k=>∃e,P.underlying t=some (.slice e)∧P.underlying e=some (.int k)∧P.cellsOf e=1
section
variable {H:Type} {enc:TypeId × Value→H} {P:Program} {W:World}
theorem OU{t:TypeId}{kd:Kd}(hk:Va P t kd){n:Nat}{v:Value}{y:DataW H × List MemPlace}(h:DataW.trod enc P W 0 (fun _=>true) true n t [v]=some y):∃f:mW,f.kd=kd∧v=f.val∧f.ok W:=by
 cases kd with
 |int k=>
  obtain⟨z,hz,_,hw⟩:=DataW.trod_int hk h
  simp at hz
  exact⟨.int k z,rfl,hz,hw⟩
 |bool=>
  obtain⟨b,hb,_⟩:=DataW.trod_bool hk h
  simp at hb
  exact⟨.bool b,rfl,hb,trivial⟩
 |ints k=>
  obtain⟨e,h1,h2,h3⟩:=hk
  rcases open_ints h1 h2 h3 h with⟨hcs,_⟩|⟨x,l,c,zs,hcs,_,hl,hm,hz,_,hcell,hwz⟩
  ·simp at hcs
   exact⟨.ints k none 0 [],rfl,hcs,Row.nil _ _ _,(fun n h=>by simp at h),Nat.zero_le _⟩
  ·simp at hcs
   obtain⟨es,he,hr,hw,hm'⟩:=Pw hl hm (by simpa using hz) hcell hwz
   subst he
   exact⟨.ints k (some x) c es,rfl,hcs,hr,hw,hm'⟩
end
section
variable {H:Type} (enc:TypeId × Value→H) (P:Program) (W:World)
def Flat(t:TypeId)(ks:List Kd):Prop:=
 P.cellsOf t=ks.length∧∀(n:Nat) (cs:List Value) (y:DataW H × List MemPlace),cs.length=ks.length→DataW.trod enc P W 0 (fun _=>true) true n t cs=some y→∃rs:List mW,rs.map mW.kd=ks∧cs=rs.map mW.val∧∀f∈rs,f.ok W
def Bo:Nat→List Field→List (List Kd)→Prop
 |off,f::fs,ks::kss=>f.offset=off∧Flat enc P W f.type ks∧Bo (off+ks.length) fs kss
 |_,[],[]=>True
 |_,_,_=>False
variable {enc P W}
theorem ng{t:TypeId}{kd:Kd}(hk:Va P t kd)(hc:P.cellsOf t=1):Flat enc P W t [kd]:=by
 refine⟨hc,fun n cs y hl h=> ?_⟩
 match cs,hl with
 |[v],_=>
  obtain⟨f,h1,h2,h3⟩:=OU hk h
  exact⟨[f],by simp[h1],by simp[h2],by simp[h3]⟩
theorem Am{n:Nat}{cs:List Value}:∀{fs:List Field} {kss:List (List Kd)} {off:Nat},Bo enc P W off fs kss→(∀f∈fs,∃y,DataW.trod enc P W 0 (fun _=>true) true n f.type ((cs.drop f.offset).take (P.cellsOf f.type))=some y)→
  cs.length=off+kss.flatten.length→∃rs:List mW,rs.map mW.kd=kss.flatten∧cs.drop off=rs.map mW.val∧∀f∈rs,f.ok W
 |[],[],off,_,_,hl=>⟨[],rfl,by simpa using List.drop_eq_nil_of_le (by simp at hl;omega),by simp⟩
 |f::fs,ks::kss,off,ha,hf,hl=>by
  obtain⟨h1,h2,h3⟩:=ha
  obtain⟨y,hy⟩:=hf f (by simp)
  rw[h1,h2.1] at hy
  have hlen:cs.length=off+(ks.length+kss.flatten.length):=by simpa using hl
  obtain⟨rs1,a1,a2,a3⟩:=h2.2 n _ y (by simp;omega) hy
  obtain⟨rs2,b1,b2,b3⟩:=Am h3 (fun g hg=>hf g (by simp[hg])) (by omega)
  refine⟨rs1++rs2,by simp[a1,b1],?_,?_⟩
  ·rw[List.map_append,←a2,←b2,←List.drop_drop,List.take_append_drop]
  ·intro g hg
   rcases List.mem_append.1 hg with hg|hg
   ·exact a3 g hg
   ·exact b3 g hg
theorem vL{t:TypeId}{fs:Array Field}(ht:P.underlying t=some (.struct fs))(kss:List (List Kd))(ha:Bo enc P W 0 fs.toList kss)(hc:P.cellsOf t=kss.flatten.length):Flat enc P W t kss.flatten:=by
 refine⟨hc,fun n cs y hl h=> ?_⟩
 obtain⟨xs,m,_,_,_,hxl,hg⟩:=DataW.trod_struct ht h
 have:=Am (n:=m) (cs:=cs) ha (fun f hf=>by
  obtain⟨i,hi,e⟩:=List.mem_iff_getElem.1 hf
  have hi':i<fs.size:=by simpa using hi
  have he:fs[i]? =some f:=by rw[←e];simp[hi']
  have:=hg i f he
  rw[List.getElem?_eq_getElem (by omega)] at this
  exact⟨_,this⟩) (by omega)
 simpa using this
theorem Mh{t e:TypeId}{fuel:Nat}{cs:List Value}{x:DataW H × List MemPlace}(ht:P.underlying t=some (.slice e))(ks:List Kd)(hks:0<ks.length)(he:Flat enc P W e ks)
  (h:DataW.trod enc P W 0 (fun _=>true) true fuel t cs=some x):
  cs=[.slice none 0 0]∨∃(a:Addr) (len cap:Nat) (rs:List (List mW)),cs=[.slice (some a) len cap]∧len≤maxLen∧rs.length=len∧yV W (some a) ks rs:=by
 rcases open_slice ht h with⟨h0,_⟩|⟨a,len,cap,m,n,D,Pl,rfl,_,hl,hm,hmm,_,hx⟩
 ·exact .inl h0
 right
 have hml:len≤m:=by rw[hmm];simpa using hl
 have hrec:∀i,i<len→∃r:List mW,r.map mW.kd=ks∧∀(j:Nat) (f:mW),r[j]? =some f→W.cell? (a.add (i*ks.length+j))=some f.val∧f.ok W:=by
  intro i hi
  obtain⟨cs',h1,h2⟩:=hx i (by omega)
  obtain⟨_,hcl,hat⟩:=World.cells?_some h1
  obtain⟨r,r1,r2,r3⟩:=he.2 n cs' _ (by rw[hcl,he.1]) h2
  refine⟨r,r1,fun j f hf=>⟨?_,r3 f (List.mem_of_getElem? hf)⟩⟩
  have hj:j<P.cellsOf e:=by
   have:=(List.getElem?_eq_some_iff.1 hf).1
   rw[he.1,←r1,List.length_map];exact this
  have h4:=hat j hj
  rw[r2,List.getElem?_map,hf] at h4
  rw[←add_add,←he.1]
  exact h4
 obtain⟨rs,hrs,hp⟩:=Rj len hrec
 refine⟨a,len,cap,rs,rfl,by omega,hrs,fun k r hr=> ?_⟩
 obtain⟨h1,h2⟩:=hp k r hr
 refine⟨h1,?_⟩
 obtain⟨b,off,spot⟩:=a
 have hr0:∀(k:Nat) (r:List mW),rs[k]? =some r→∃f,r[0]? =some f:=by
  intro k r hr
  obtain⟨h1,_⟩:=hp k r hr
  have hrl:r.length=ks.length:=by rw[←h1,List.length_map]
  exact⟨r[0]'(by omega),List.getElem?_eq_getElem (by omega)⟩
 have hs':spot=none:=by
  have hk0:rs[0]? =some (rs[0]'(by have:=(List.getElem?_eq_some_iff.1 hr).1;omega)):=List.getElem?_eq_getElem _
  obtain⟨f,hf⟩:=hr0 0 _ hk0
  have hs:=Ad ((hp 0 _ hk0).2 0 f hf).1
  simpa[Addr.add] using hs
 subst hs'
 have hadd:∀m,(⟨b,off,none⟩:Addr).add m=⟨b,off+m,none⟩:=by
  intro m
  unfold Addr.add
  by_cases h0:m=0
  ·subst h0;rfl
  ·simp[h0]
 obtain⟨f0,hf0⟩:=hr0 k r hr
 have hb:=xg (h2 0 f0 hf0).1
 rw[hadd] at hb
 refine⟨b,off,rfl,hb,fun j f hf=> ?_⟩
 have:=h2 j f hf
 rw[hadd,←Nat.add_assoc] at this
 exact this
end
end Go.Proofs.YtjmifnljckmimaaGreat.Pk
