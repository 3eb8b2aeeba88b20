/-
  An argument that is a slice of structs whose fields are numbers, truth values, and slices of numbers: what its cells hold. No program in sight.
-/
import Derived.Test.YtjmifnljckmimaaGreatBaseEtc
import Derived.Deep.Slices
import Derived.Deep.Fields
import Derived.ChangeSame
import Derived.ChangeSlices
namespace Go.Proofs.YtjmifnljckmimaaGreat.Pk
open Go.RowKit Go.ChangeShapes Go.WideShapes Go.Deep
set_option linter.unusedVariables false
set_option linter.unusedSimpArgs false
inductive Kd where
 |int (k:IntKind)
 |bool
 |ints (k:IntKind)
inductive Fld where
 |int (k:IntKind) (n:Int)
 |bool (b:Bool)
 |ints (k:IntKind) (a:Option Addr) (cap:Nat) (zs:List Int)
def Fld.kd:Fld→Kd
 | .int k _=>.int k
 | .bool _=>.bool
 | .ints k _ _ _=>.ints k
def Fld.val:Fld→Value
 | .int k n=>.int k n
 | .bool b=>.bool b
 | .ints _ a cap zs=>.slice a zs.length cap
def Fld.ok(w:World):Fld→Prop
 | .int k n=>(Lit.int k n).wf=true
 | .bool _=>True
 | .ints k a _ zs=>Row w k a zs∧(∀n∈zs,(Lit.int k n).wf=true)∧zs.length≤maxLen
def Recs(w:World)(a:Option Addr)(ks:List Kd)(rs:List (List Fld)):Prop:=
 ∀(k:Nat) (r:List Fld),rs[k]? =some r→r.map Fld.kd=ks∧∃b off,a=some ⟨b,off,none⟩∧b<w.heap.size∧∀(j:Nat) (f:Fld),r[j]? =some f→w.cell? ⟨b,off+k*ks.length+j,none⟩=some f.val∧f.ok w
theorem Recs.nil(w:World)(a:Option Addr)(ks:List Kd):Recs w a ks []:=fun _ _ h=>by simp at h
theorem list_of{α:Type}{p:Nat→α→Prop}:∀(m:Nat),(∀i,i<m→∃x,p i x)→∃l:List α,l.length=m∧∀i x,l[i]? =some x→p i x:=by
 intro m
 induction m with
 |zero=>exact fun _=>⟨[],rfl,fun i x h=>by simp at h⟩
 |succ m ih=>
  intro h
  obtain⟨l,hl,hp⟩:=ih fun i hi=>h i (by omega)
  obtain⟨x,hx⟩:=h m (by omega)
  refine⟨l++[x],by simp[hl],fun i y hy=> ?_⟩
  by_cases hi:i<m
  ·rw[List.getElem?_append_left (by omega)] at hy
   exact hp i y hy
  ·rw[List.getElem?_append_right (by omega)] at hy
   have:i-l.length=0:=by
    by_cases h0:i-l.length=0
    ·exact h0
    ·rw[List.getElem?_eq_none (by simp;omega)] at hy;cases hy
   rw[this] at hy
   have him:i=m:=by omega
   subst him
   simp at hy
   subst hy
   exact hx
def KdOk(P:Program)(t:TypeId):Kd→Prop
 | .int k=>P.underlying t=some (.int k)
 | .bool=>P.underlying t=some .bool
 | .ints k=>∃e,P.underlying t=some (.slice e)∧P.underlying e=some (.int k)∧P.cellsOf e=1
def JD(P:Program):List Field→List Kd→Prop
 |f::fs,k::ks=>KdOk P f.type k∧JD P fs ks
 |[],[]=>True
 |_,_=>False
theorem yw{P:Program}:∀{fs:List Field} {ks:List Kd},JD P fs ks→ks.length=fs.length∧∀(j:Nat) (f:Field) (kd:Kd),fs[j]? =some f→ks[j]? =some kd→KdOk P f.type kd:=by
 intro fs
 induction fs with
 |nil=>
  intro ks h
  cases ks with
  |nil=>exact⟨rfl,fun j f kd h=>by simp at h⟩
  |cons k ks=>exact h.elim
 |cons f fs ih=>
  intro ks h
  cases ks with
  |nil=>exact h.elim
  |cons k ks=>
   obtain⟨h1,h2⟩:=h
   obtain⟨i1,i2⟩:=ih h2
   refine⟨by simp[i1],fun j f' kd hf hk=> ?_⟩
   cases j with
   |zero=>simp at hf hk;subst hf hk;exact h1
   |succ j=>simp at hf hk;exact i2 j f' kd hf hk
section
variable {H:Type} {enc:TypeId × Value→H} {P:Program} {W:World}
theorem open_fld{t:TypeId}{kd:Kd}(hk:KdOk P t kd){n:Nat}{v:Value}{y:DataW H × List MemPlace}(h:DataW.trod enc P W 0 (fun _=>true) true n t [v]=some y):∃f:Fld,f.kd=kd∧v=f.val∧f.ok W:=by
 cases kd with
 |int k=>
  obtain⟨z,hz,_,hw⟩:=DataW.trod_int hk h
  simp at hz
  exact⟨.int k z,rfl,hz,hw⟩
 |bool=>
  obtain⟨b,hb,_⟩:=DataW.trod_bool hk h
  simp at hb
  exact⟨.bool b,rfl,hb,trivial⟩
 |ints k=>
  obtain⟨e,h1,h2,h3⟩:=hk
  rcases open_ints h1 h2 h3 h with⟨hcs,_⟩|⟨x,l,c,zs,hcs,_,hl,hm,hz,_,hcell,hwz⟩
  ·simp at hcs
   exact⟨.ints k none 0 [],rfl,hcs,Row.nil _ _ _,(fun n h=>by simp at h),Nat.zero_le _⟩
  ·simp at hcs
   obtain⟨es,he,hr,hw,hm'⟩:=Dt hl hm (by simpa using hz) hcell hwz
   subst he
   exact⟨.ints k (some x) c es,rfl,hcs,hr,hw,hm'⟩
theorem yX{t e:TypeId}{fs:Array Field}{fuel:Nat}{cs:List Value}{x:DataW H × List MemPlace}(ht:P.underlying t=some (.slice e))(he:P.underlying e=some (.struct fs))(hone:oneCellFields P fs=true)(hC:P.cellsOf e=fs.size)
  (ks:List Kd) (hks:0<ks.length) (hall:JD P fs.toList ks) (h:DataW.trod enc P W 0 (fun _=>true) true fuel t cs=some x):
  cs=[.slice none 0 0]∨∃(a:Addr) (len cap:Nat) (rs:List (List Fld)),cs=[.slice (some a) len cap]∧len≤maxLen∧rs.length=len∧Recs W (some a) ks rs:=by
 have hlen:ks.length=fs.size:=by simpa using(yw hall).1
 have hk:∀(j:Nat) (f:Field) (kd:Kd),fs[j]? =some f→ks[j]? =some kd→KdOk P f.type kd:=fun j f kd hf hkd=>(yw hall).2 j f kd (by simpa using hf) hkd
 rcases open_slice ht h with⟨h0,_⟩|⟨a,len,cap,m,n,D,Pl,rfl,_,hl,hm,hmm,_,hx⟩
 ·exact .inl h0
 right
 have hml:len≤m:=by rw[hmm];simpa using hl
 have hrec:∀i,i<len→∃r:List Fld,r.map Fld.kd=ks∧∀(j:Nat) (f:Fld),r[j]? =some f→W.cell? (a.add (i*ks.length+j))=some f.val∧f.ok W:=by
  intro i hi
  obtain⟨cs',h1,h2⟩:=hx i (by omega)
  obtain⟨_,hcl,hat⟩:=World.cells?_some h1
  obtain⟨xs,n',_,_,_,hxl,hg⟩:=DataW.trod_struct he h2
  have hfl:∀j,j<fs.size→∃f:Fld,ks[j]? =some f.kd∧W.cell? (a.add (i*ks.length+j))=some f.val∧f.ok W:=by
   intro j hj
   have hfj:fs[j]? =some fs[j]:=by simp[hj]
   have hkj:ks[j]? =some (ks[j]'(by omega)):=List.getElem?_eq_getElem (by omega)
   obtain⟨ho,hc1⟩:=hone_of hone j _ hfj
   have hjc:j<cs'.length:=by rw[hcl,hC];exact hj
   have h3:=hg j _ hfj
   rw[ho,hc1,List.drop_eq_getElem_cons hjc] at h3
   have h3:DataW.trod enc P W 0 (fun _=>true) true n' fs[j].type [cs'[j]]=xs[j]? :=h3
   have hxj:xs[j]? =some (xs[j]'(by omega)):=List.getElem?_eq_getElem (by omega)
   rw[hxj] at h3
   obtain⟨f,hf1,hf2,hf3⟩:=open_fld (hk j _ _ hfj hkj) (v:=cs'[j]) h3
   refine⟨f,by rw[hkj,hf1],?_,hf3⟩
   have h4:=hat j (by rw[hC];exact hj)
   rw[List.getElem?_eq_getElem hjc,hf2] at h4
   rw[hlen,←add_add,←hC]
   exact h4
  obtain⟨r,hr,hp⟩:=list_of fs.size hfl
  refine⟨r,?_,fun j f hf=>(hp j f hf).2⟩
  apply List.ext_getElem?
  intro j
  by_cases hj:j<fs.size
  ·have hrj:r[j]? =some (r[j]'(by omega)):=List.getElem?_eq_getElem (by omega)
   rw[List.getElem?_map,hrj]
   exact((hp j _ hrj).1).symm
  ·rw[List.getElem?_eq_none (by simp;omega),List.getElem?_eq_none (by omega)]
 obtain⟨rs,hrs,hp⟩:=list_of len hrec
 refine⟨a,len,cap,rs,rfl,by omega,hrs,fun k r hr=> ?_⟩
 obtain⟨h1,h2⟩:=hp k r hr
 refine⟨h1,?_⟩
 obtain⟨b,off,spot⟩:=a
 have hr0:∀(k:Nat) (r:List Fld),rs[k]? =some r→∃f,r[0]? =some f:=by
  intro k r hr
  obtain⟨h1,_⟩:=hp k r hr
  have hrl:r.length=ks.length:=by rw[←h1,List.length_map]
  exact⟨r[0]'(by omega),List.getElem?_eq_getElem (by omega)⟩
 have hs':spot=none:=by
  have hk0:rs[0]? =some (rs[0]'(by have:=(List.getElem?_eq_some_iff.1 hr).1;omega)):=List.getElem?_eq_getElem _
  obtain⟨f,hf⟩:=hr0 0 _ hk0
  have hs:=cell_none ((hp 0 _ hk0).2 0 f hf).1
  simpa[Addr.add] using hs
 subst hs'
 have hadd:∀m,(⟨b,off,none⟩:Addr).add m=⟨b,off+m,none⟩:=by
  intro m
  unfold Addr.add
  by_cases h0:m=0
  ·subst h0;rfl
  ·simp[h0]
 obtain⟨f0,hf0⟩:=hr0 k r hr
 have hb:=cell_block (h2 0 f0 hf0).1
 rw[hadd] at hb
 refine⟨b,off,rfl,hb,fun j f hf=> ?_⟩
 have:=h2 j f hf
 rw[hadd,←Nat.add_assoc] at this
 exact this
end
end Go.Proofs.YtjmifnljckmimaaGreat.Pk
