/-
  Texts laid together: Tame, Tame2, TameX.
-/
import Derived.Test.YtjmifnljckmimaaGreatBaseEtc
import Derived.Deep.Quiet
namespace Go.Proofs.YtjmifnljckmimaaGreat.Pk
open Go.RowKit
set_option linter.unusedVariables false
set_option linter.unusedSimpArgs false
structure af where
 p:World→Value→Prop
 stays:∀w w' v,Below w.heap.size w w'→p w v→p w' v
 can:∃w v,p w v
def af.is(v:Value):af:=⟨fun _ u=>u=v,fun _ _ _ _ h=>h,⟨default,v,rfl⟩⟩
def af.any:af:=⟨fun _ _=>True,fun _ _ _ _ _=>trivial,⟨default,undef,trivial⟩⟩
def QE(k:IntKind)(zs:List Int)(w:World)(u:Value):Prop:=∃a cap,u=.slice a zs.length cap∧Row w k a zs
def af.row(k:IntKind)(zs:List Int):af:=
 ⟨QE k zs,fun _ _ _ hb ⟨a,cap,h,hr⟩=>⟨a,cap,h,hr.later hb⟩,⟨_,_,_,0,rfl,Row.lit default k zs 0⟩⟩
theorem af.vJ{v u:Value}(h:∃w,(af.is v).p w u):u=v:=h.elim fun _ h=>h
theorem af.NY{k:IntKind}{zs:List Int}{u:Value}(h:∃w,(af.row k zs).p w u):∃a cap,u=.slice a zs.length cap:=h.elim fun _ ⟨a,cap,h,_⟩=>⟨a,cap,h⟩
def bO(P:Program)(w:World)(p:World→Value→Prop):Result Next→Prop
 | .ok (.value u) w'=>Below w.heap.size w w'∧p w' u
 | .ok .skip w'=>Below w.heap.size w w'∧p w' undef
 | .ok (.enter f args) w'=>Calls P f args w' (fun e w''=>∃v,e=.returned v∧Below w.heap.size w w''∧p w'' v)
 |_=>False
def bU(P:Program)(o:Oper)(a:Act)(w:World)(p:World→Value→Prop):Prop:=bO P w p ((execOp a.eval o).run P w)
def waitsFor(o:Oper)(j:Nat):Bool:=o.after.any fun e=>Region.binds .any e&&e.on==j
def fF(o:Oper)(known:List (World→Prop))(w:World):Prop:=∀j,waitsFor o j=true→(known.getD j fun _=>True) w
def dE(P:Program)(ops:Array Oper)(C:World→Prop)(K:Act→World→Prop):List Oper→List af→Act→List (World→Prop)→Prop
 |o::l,f::fs,a,known=>
  (∀w,C w→fF o known w→if Region.wanted o (yielded ops a.tmps) then bU P o a w f.p else f.p w undef)∧
  ∀u,(∃w,f.p w u)→dE P ops C K l fs (a.put o.dst u) (known++[fun w=>f.p w u])
 |_,_,a,known=>∀w,C w→(∀j,(known.getD j fun _=>True) w)→K a w
theorem kw{P:Program}{ops:Array Oper}{C:World→Prop}{K:Act→World→Prop}{o:Oper}{l:List Oper}{f:af}{fs:List af}{a:Act}{known:List (World→Prop)}
  (h1:∀w,C w→fF o known w→if Region.wanted o (yielded ops a.tmps) then bU P o a w f.p else f.p w undef)
  (h2:∀u,(∃w,f.p w u)→dE P ops C K l fs (a.put o.dst u) (known++[fun w=>f.p w u])):dE P ops C K (o::l) (f::fs) a known:=⟨h1,h2⟩
theorem fJ{P:Program}{ops:Array Oper}{C:World→Prop}{K:Act→World→Prop}{l:List Oper}{a:Act}{known:List (World→Prop)}
  (h:∀w,C w→(∀j,(known.getD j fun _=>True) w)→K a w):dE P ops C K l [] a known:=by
 cases l<;>exact h
def aJ(ops:List Oper)(a:Act)(us:Nat→Value):Nat→Act
 |0=>a
 |i+1=>match ops[i]? with
  |some o=>(aJ ops a us i).put o.dst (us i)
  |none=>aJ ops a us i
def cz(fs:List af)(us:Nat→Value)(i:Nat):List (World→Prop):=(List.range i).map fun j=>fun w=>(fs.getD j af.any).p w (us j)
theorem lZ(fs:List af)(us:Nat→Value)(i:Nat){f:af}(hf:fs[i]? =some f):cz fs us (i+1)=cz fs us i++[fun w=>f.p w (us i)]:=by
 unfold cz
 rw[List.range_succ,List.map_append]
 simp[List.getD,hf]
section
variable {P:Program} {C:World→Prop} {K:Act→World→Prop}
theorem ou{ops:Array Oper}:∀(l:List Oper) (fs:List af) (a:Act) (known:List (World→Prop)) (L:List Oper) (F:List af) (A:Act) (us:Nat→Value) (k:Nat),
  (∀j,l[j]? =L[k+j]?)→(∀j,fs[j]? =F[k+j]?)→k+fs.length=F.length→F.length≤L.length→a=aJ L A us k→known=cz F us k→(∀j (f:af),F[j]? =some f→∃w,f.p w (us j))→
  dE P ops C K l fs a known→
  (∀i o f,k≤i→L[i]? =some o→F[i]? =some f→∀w,C w→fF o (cz F us i) w→if Region.wanted o (yielded ops (aJ L A us i).tmps) then bU P o (aJ L A us i) w f.p else f.p w undef)∧
  (∀w,C w→(∀j,((cz F us F.length).getD j fun _=>True) w)→K (aJ L A us F.length) w):=by
 intro l
 induction l with
 |nil=>
  intro fs a known L F A us k hl hf hk hFL ha hkn hus h
  have hL:L.length≤k:=by
   have:=hl 0
   rw[List.getElem?_nil] at this
   have:=this.symm
   rw[List.getElem?_eq_none_iff] at this
   omega
  have hfs:fs=[]:=by
   cases fs with
   |nil=>rfl
   |cons f fs=>simp at hk;omega
  subst hfs
  have hkF:k=F.length:=by simpa using hk
  subst ha hkn hkF
  refine⟨fun i o f hki _ hFi=> ?_,fun w hC hj=>h w hC hj⟩
  have:=List.getElem?_eq_none_iff.2 hki
  rw[this] at hFi
  cases hFi
 |cons o l ih=>
  intro fs a known L F A us k hl hf hk hFL ha hkn hus h
  cases fs with
  |nil=>
   have hkF:k=F.length:=by simpa using hk
   subst ha hkn hkF
   refine⟨fun i o f hki _ hFi=> ?_,fun w hC hj=>h w hC hj⟩
   have:=List.getElem?_eq_none_iff.2 hki
   rw[this] at hFi
   cases hFi
  |cons f fs=>
   obtain⟨h1,h2⟩:=h
   have hLk:L[k]? =some o:=by simpa using(hl 0).symm
   have hFk:F[k]? =some f:=by simpa using(hf 0).symm
   have h3:=h2 (us k) (hus k f hFk)
   have:=ih fs _ _ L F A us (k+1) (fun j=>by have:=hl (j+1);simpa[Nat.add_assoc,Nat.add_comm 1 j] using this) (fun j=>by have:=hf (j+1);simpa[Nat.add_assoc,Nat.add_comm 1 j] using this)
    (by simp at hk;omega) hFL (by rw[ha];simp[aJ,hLk]) (by rw[hkn,lZ _ _ _ hFk]) hus h3
   refine⟨fun i o' f' hki hLi hFi w hC hd=> ?_,this.2⟩
   by_cases hik:i=k
   ·subst hik
    rw[hLk] at hLi;rw[hFk] at hFi
    cases hLi;cases hFi
    subst ha hkn
    exact h1 w hC hd
   ·exact this.1 i o' f' (by omega) hLi hFi w hC hd
end
def makes(ops:List Oper)(t:Tmp)(j:Nat):Bool:=match ops[j]? with|some o=>o.dst==some t|none=>false
def mJ(ops:List Oper)(i:Nat)(o:Oper):Bool:=
 (o.looksAt ops.toArray).all (fun t=>(List.range ops.length).all fun j=> !makes ops t j||(waitsFor o j&&decide (j<i)))&&
 o.after.all (fun e=> !Region.binds .any e||decide (e.on<i))
def needs(ops:List Oper):Nat→Nat→Nat→Bool
 |0,_,_=>false
 |f+1,i,j=>match ops[i]? with
  |some o=>waitsFor o j||(List.range ops.length).any fun k=>waitsFor o k&&needs ops f k j
  |none=>false
def lJ(ops:List Oper)(n:Nat)(size:Nat):Bool:=
 Region.noSelect ops.toArray&&decide (n≤ops.length)&&
 (List.range ops.length).all (fun i=>match ops[i]? with
  |some o=>(if decide (i<n) then mJ ops i o else((List.range ops.length).any fun k=>decide (n≤k)&&waitsFor o k)||(List.range n).all fun j=>needs ops ops.length i j)&&
    (match o.dst with
     |some t=>decide (t<size)&&(List.range n).all fun j=>decide (j=i)|| !makes ops t j||decide (n≤i)
     |none=>true)
  |none=>true)
theorem waitsFor_spec{o:Oper}{j:Nat}(h:waitsFor o j=true):∃e∈o.after,Region.binds .any e=true∧e.on=j:=by
 obtain⟨e,he,hb⟩:=Array.any_eq_true'.1 h
 simp only[Bool.and_eq_true,beq_iff_eq] at hb
 exact⟨e,he,hb.1,hb.2⟩
theorem nU{a:Act}{o:Oper}{t:Tmp}(h:o.dst=some t)(v:Value):a.put o.dst v={a with tmps:=a.tmps.setIfInBounds t v}:=by rw[h];rfl
theorem dG{ops:List Oper}{a:Act}{us:Nat→Value}{i:Nat}{o:Oper}(h:ops[i]? =some o):aJ ops a us (i+1)=(aJ ops a us i).put o.dst (us i):=by
 simp only[aJ,h]
theorem fB{ops:List Oper}{a:Act}{us:Nat→Value}{i:Nat}(h:ops[i]? =none):aJ ops a us (i+1)=aJ ops a us i:=by
 simp only[aJ,h]
theorem iG{ops:List Oper}{a:Act}{us:Nat→Value}{t:Tmp}:∀(i:Nat),(∀j,j<i→makes ops t j=false)→(aJ ops a us i).tmps[t]? =a.tmps[t]? :=by
 intro i
 induction i with
 |zero=>intro _;rfl
 |succ i ih=>
  intro h
  have h1:=ih fun j hj=>h j (by omega)
  have h2:=h i (by omega)
  unfold makes at h2
  cases ho:ops[i]? with
  |none=>rw[fB ho];exact h1
  |some o=>
   simp only[ho] at h2
   rw[dG ho]
   cases hd:o.dst with
   |none=>exact h1
   |some d=>
    have hne:d≠t:=by simpa[hd] using h2
    show(Array.setIfInBounds _ d _)[t]? =_
    rw[Array.getElem?_setIfInBounds_ne hne]
    exact h1
theorem ku(a:Act)(d:Option Tmp)(v:Value):(a.put d v).tmps.size=a.tmps.size∧(a.put d v).defers=a.defers:=by
 cases d with
 |none=>exact⟨rfl,rfl⟩
 |some t=>exact⟨by simp[Act.put],rfl⟩
theorem iF{ops:List Oper}{a:Act}{us:Nat→Value}:∀(i:Nat),(aJ ops a us i).tmps.size=a.tmps.size∧(aJ ops a us i).defers=a.defers:=by
 intro i
 induction i with
 |zero=>exact⟨rfl,rfl⟩
 |succ i ih=>
  cases ho:ops[i]? with
  |none=>rw[fB ho];exact ih
  |some o=>rw[dG ho];have:=ku (aJ ops a us i) o.dst (us i);exact⟨this.1.trans ih.1,this.2.trans ih.2⟩
theorem gK{ops:List Oper}{a:Act}{us:Nat→Value}{t:Tmp}{j:Nat}(hj:makes ops t j=true)(ht:t<a.tmps.size):∀(i:Nat),j<i→(∀k,k<i→k≠j→makes ops t k=false)→(aJ ops a us i).tmps[t]? =some (us j):=by
 intro i
 induction i with
 |zero=>intro h;omega
 |succ i ih=>
  intro h hu
  by_cases hij:j=i
  ·subst hij
   unfold makes at hj
   cases ho:ops[j]? with
   |none=>simp[ho] at hj
   |some o=>
    simp only[ho] at hj
    have hd:o.dst=some t:=by simpa using hj
    rw[dG ho]
    simp only[nU hd]
    rw[Array.getElem?_setIfInBounds_self_of_lt (by rw[(iF j).1];exact ht)]
  ·have h1:=ih (by omega) fun k hk=>hu k (by omega)
   have h2:=hu i (by omega) (by omega)
   unfold makes at h2
   cases ho:ops[i]? with
   |none=>rw[fB ho];exact h1
   |some o=>
    simp only[ho] at h2
    rw[dG ho]
    cases hd:o.dst with
    |none=>exact h1
    |some d=>
     have hne:d≠t:=by simpa[hd] using h2
     show(Array.setIfInBounds _ d _)[t]? =_
     rw[Array.getElem?_setIfInBounds_ne hne]
     exact h1
theorem rQ{ops:Array Oper}{o:Oper}(hs:∀cs b,o.op≠.select cs b){a a':Act}(h:∀t∈o.looksAt ops,a.tmps[t]? =a'.tmps[t]?):
  execOp a.eval o=execOp a'.eval o∧Region.wanted o (yielded ops a.tmps)=Region.wanted o (yielded ops a'.tmps):=by
 refine⟨execOp_congr o hs fun x hx=> ?_,?_⟩
 ·cases x with
  |tmp t=>
   have:=h t (List.mem_append_left _ (List.mem_filterMap.2 ⟨.tmp t,by simpa using hx,rfl⟩))
   show a.tmps.getD t undef=a'.tmps.getD t undef
   simp only[Array.getD_eq_getD_getElem?,this]
  |_=>rfl
 ·unfold Region.wanted
  cases hg:o.guard with
  |none=>rfl
  |some gw=>
   obtain⟨g,want⟩:=gw
   have hy:yielded ops a.tmps g=yielded ops a'.tmps g:=by
    unfold yielded
    cases ht:(ops[g]?).bind (·.dst) with
    |none=>rfl
    |some t=>
     have:=h t (by simp[Oper.looksAt,hg,ht])
     simp[this]
   simp only[hy]
def fU(n k:Nat):Array Bool:=((List.range n).map fun i=>decide (i<k)).toArray
structure JN (L:List Oper) (F:List af) (a:Act) (listed:Array Bool) (a':Act) (w':World) (us:Nat→Value):Prop where
 size:listed.size=L.length
 rest:∀j,F.length≤j→listed.getD j false=false
 tmps:a'.tmps.size=a.tmps.size
 defers:a'.defers=a.defers
 kept:∀t,(∀j,listed.getD j false=true→makes L t j=false)→a'.tmps[t]? =a.tmps[t]?
 made:∀j t,listed.getD j false=true→makes L t j=true→a'.tmps[t]? =some (us j)
 fact:∀j f,F[j]? =some f→listed.getD j false=true→f.p w' (us j)
 closed:∀j o k,L[j]? =some o→listed.getD j false=true→waitsFor o k=true→listed.getD k false=true
theorem iL{L:List Oper}{listed:Array Bool}(hc:∀j o k,L[j]? =some o→listed.getD j false=true→waitsFor o k=true→listed.getD k false=true):
  ∀(f i j:Nat) (o:Oper),L[i]? =some o→(∀k,waitsFor o k=true→listed.getD k false=true)→needs L f i j=true→listed.getD j false=true
 |0,_,_,_,_,_,h=>by cases h
 |f+1,i,j,o,ho,hw,h=>by
  simp only[needs,ho,Bool.or_eq_true,List.any_eq_true,Bool.and_eq_true,List.mem_range] at h
  rcases h with h|⟨k,hk,h1,h2⟩
  ·exact hw j h
  ·have hl:=hw k h1
   exact iL hc f k j L[k] (by simp[hk]) (fun m hm=>hc k L[k] m (by simp[hk]) hl hm) h2
theorem jd{L:List Oper}{n size:Nat}(h:lJ L n size=true):Region.noSelect L.toArray=true∧n≤L.length∧
  (∀(i:Nat) (o:Oper),L[i]? =some o→i<n→mJ L i o=true)∧(∀(i:Nat) (o:Oper),L[i]? =some o→n≤i→(∃k,n≤k∧waitsFor o k=true)∨∀j,j<n→needs L L.length i j=true)∧
  (∀(i:Nat) (o:Oper) (t:Tmp),L[i]? =some o→o.dst=some t→t<size)∧
  (∀(i:Nat) (t:Tmp),i<n→makes L t i=true→∀j,j<n→j≠i→makes L t j=false):=by
 simp only[lJ,Bool.and_eq_true,decide_eq_true_eq,List.all_eq_true,List.mem_range] at h
 obtain⟨⟨h1,h2⟩,h3⟩:=h
 have hlt:∀{i:Nat} {o:Oper},L[i]? =some o→i<L.length:=fun {i o} hi=>(List.getElem?_eq_some_iff.1 hi).1
 refine⟨h1,h2,fun i o hi hn=> ?_,fun i o hi hn=> ?_,fun i o t hi hd=> ?_,fun i t hi hm j hj hne=> ?_⟩
 ·have:=h3 i (hlt hi)
  simp only[hi,Bool.and_eq_true] at this
  have h4:=this.1
  rw[if_pos (by simpa using hn)] at h4
  exact h4
 ·have:=h3 i (hlt hi)
  simp only[hi,Bool.and_eq_true] at this
  have h4:=this.1
  rw[if_neg (by simpa using hn)] at h4
  simp only[Bool.or_eq_true,List.any_eq_true,Bool.and_eq_true,decide_eq_true_eq,List.all_eq_true,List.mem_range] at h4
  rcases h4 with⟨k,_,hk⟩|h4
  ·exact .inl ⟨k,hk⟩
  ·exact .inr h4
 ·have:=h3 i (hlt hi)
  simp only[hi,hd,Bool.and_eq_true,decide_eq_true_eq] at this
  exact this.2.1
 ·unfold makes at hm
  cases hi2:L[i]? with
  |none=>simp[hi2] at hm
  |some o=>
   simp only[hi2] at hm
   have hd:o.dst=some t:=by simpa using hm
   have:=h3 i (hlt hi2)
   simp only[hi2,hd,Bool.and_eq_true,List.all_eq_true,List.mem_range] at this
   have h5:=this.2.2 j hj
   simp only[Bool.or_eq_true,decide_eq_true_eq,Bool.not_eq_true'] at h5
   rcases h5 with(h5|h5)|h5
   ·exact absurd h5 hne
   ·exact h5
   ·omega
theorem jV{listed:Array Bool}{j:Nat}(h:¬listed.getD j false=true):listed.getD j false=false:=by simpa using h
theorem kY{listed:Array Bool}{j:Nat}(hj:j<listed.size):listed.getD j true=listed.getD j false:=by simp[hj]
theorem dR(listed:Array Bool)(i j:Nat)(hi:i<listed.size):(listed.setIfInBounds i true).getD j false=if i=j then true else listed.getD j false:=by
 by_cases h:i=j
 ·subst h;simp[hi]
 ·rw[if_neg h,getD_set_ne false h]
section
variable {P:Program} {Q:Exit→Act→World→Prop}
theorem qg{L:List Oper}{F:List af}{a:Act}{w:World}(hB:lJ L F.length a.tmps.size=true)
  (h:dE P L.toArray (fun w'=>Below w.heap.size w w') (fun a' w'=>wpAny P .any L.toArray Q (L.length-F.length) (fU L.length F.length) a' w') L F a []):
  ∀(m:Nat) (listed:Array Bool) (a':Act) (w':World) (us:Nat→Value),(listed.toList.take F.length).count false=m→JN L F a listed a' w' us→Below w.heap.size w w'→
   wpAny P .any L.toArray Q (m+(L.length-F.length)) listed a' w':=by
 obtain⟨hsel,hn,htidy,htail,hsize,huniq⟩:=jd hB
 intro m
 induction m with
 |zero=>
  intro listed a' w' us hcount hst hC
  rw[List.count_eq_zero] at hcount
  have hall:∀j,j<F.length→listed.getD j false=true:=by
   intro j hj
   by_cases e:listed.getD j false=true
   ·exact e
   ·exfalso
    apply hcount
    rw[List.mem_take_iff_getElem]
    have hjs:j<listed.size:=by rw[hst.size];omega
    have e2:=jV e
    refine⟨j,by simp;omega,?_⟩
    simpa[hjs] using e2
  have hlisted:listed=fU L.length F.length:=by
   apply Array.ext
   ·rw[hst.size];simp[fU]
   ·intro j h1 h2
    have h3:listed.getD j false=listed[j]:=by simp[h1]
    rw[←h3]
    simp only[fU,List.getElem_toArray,List.getElem_map,List.getElem_range]
    by_cases e:j<F.length
    ·rw[hall j e];simp[e]
    ·rw[hst.rest j (by omega)];simp[e]
  have hW:=ou (P:=P) L F a [] L F a (fun j=>if j<F.length then us j else undef) 0 (fun j=>by simp) (fun j=>by simp) (by simp) hn rfl (by simp[cz])
   (fun j f hf=>⟨w',by rw[if_pos (List.getElem?_eq_some_iff.1 hf).1];exact hst.fact j f hf (hall j (List.getElem?_eq_some_iff.1 hf).1)⟩) h
  have h2:=hW.2 w' hC (fun j=>by
   unfold cz
   by_cases hj:j<F.length
   ·have hfj:F[j]? =some F[j]:=by simp[hj]
    simp only[List.getD,List.getElem?_map,List.getElem?_range hj,Option.map_some,Option.getD_some,hfj,if_pos hj]
    exact hst.fact j _ hfj (hall j hj)
   ·simp[List.getD,hj])
  have hframe:aJ L a (fun j=>if j<F.length then us j else undef) F.length=a':=by
   have hs:=iF (ops:=L) (a:=a) (us:=fun j=>if j<F.length then us j else undef) F.length
   have ht:(aJ L a (fun j=>if j<F.length then us j else undef) F.length).tmps=a'.tmps:=by
    apply Array.ext_getElem?
    intro t
    by_cases hmk:∃j,j<F.length∧makes L t j=true
    ·obtain⟨j,hj,hmj⟩:=hmk
     have hts:t<a.tmps.size:=by
      have hmj2:=hmj
      unfold makes at hmj2
      cases hL:L[j]? with
      |none=>simp[hL] at hmj2
      |some o=>simp only[hL] at hmj2;exact hsize j o t hL (by simpa using hmj2)
     rw[gK hmj hts F.length hj (fun k hk hne=>huniq j t hj hmj k hk hne),hst.made j t (hall j hj) hmj,if_pos hj]
    ·have hno:∀j,j<F.length→makes L t j=false:=fun j hj=>by
      by_cases e:makes L t j=true
      ·exact absurd ⟨j,hj,e⟩ hmk
      ·simpa using e
     rw[iG F.length hno,hst.kept t fun j hj=>hno j ?_]
     by_cases e:j<F.length
     ·exact e
     ·rw[hst.rest j (by omega)] at hj;cases hj
   have hd:=hs.2.trans hst.defers.symm
   cases hfr:aJ L a (fun j=>if j<F.length then us j else undef) F.length with
   |mk t1 d1=>
    rw[hfr] at ht hd
    cases a' with
    |mk t2 d2=>simp only at ht hd;subst ht hd;rfl
  rw[hframe,←hlisted] at h2
  rw[Nat.zero_add]
  exact h2
 |succ m ih=>
  intro listed a' w' us hcount hst hC
  have hex:∃j,j<F.length∧listed.getD j false=false:=by
   have hmem:false∈listed.toList.take F.length:=by
    rw[←List.count_pos_iff];omega
   rw[List.mem_take_iff_getElem] at hmem
   obtain⟨j,hj,hv⟩:=hmem
   have hj1:j<F.length:=by omega
   have hj2:j<listed.size:=by
    have:j<listed.toList.length:=by omega
    simpa using this
   exact⟨j,hj1,by simpa[hj2] using hv⟩
  rw[show m+1+(L.length-F.length)=m+(L.length-F.length)+1 by omega]
  refine⟨fun hnil=> ?_,fun i hi=> ?_⟩
  ·exfalso
   have hall:∀j,j<F.length→listed.getD j false=true:=by
    intro j
    induction j using Nat.strongRecOn with
    |ind j ihj=>
     intro hj
     by_cases e:listed.getD j false=true
     ·exact e
     ·exfalso
      have hjL:j<L.length:=by omega
      have hr:j∈Region.ready .any L.toArray listed:=by
       rw[mem_ready]
       refine⟨?_,L[j],by simp[hjL],fun ed hed hb=> ?_⟩
       ·rw[kY (by rw[hst.size];exact hjL)];exact jV e
       ·have ht:=htidy j L[j] (by simp[hjL]) hj
        simp only[mJ,Bool.and_eq_true] at ht
        have:=Array.all_eq_true_iff_forall_mem.1 ht.2 ed hed
        simp only[hb,Bool.not_true,Bool.false_or,decide_eq_true_eq] at this
        exact ihj ed.on this (by omega)
      rw[hnil] at hr
      cases hr
   obtain⟨j,hj,hf⟩:=hex
   rw[hall j hj] at hf
   cases hf
  ·obtain⟨hun,o,ho,hwait⟩:=mem_ready.1 hi
   have hLi:L[i]? =some o:=by simpa using ho
   have hiL:i<L.length:=(List.getElem?_eq_some_iff.1 hLi).1
   have hin:i<F.length:=by
    by_cases e:i<F.length
    ·exact e
    ·exfalso
     obtain⟨j,hj,hf⟩:=hex
     have hw:∀k,waitsFor o k=true→listed.getD k false=true:=fun k hk=>by
      obtain⟨ed,hed,hb,hon⟩:=waitsFor_spec hk
      rw[←hon];exact hwait ed hed hb
     rcases htail i o hLi (by omega) with⟨k,hk,hwk⟩|hn2
     ·have:=hw k hwk
      rw[hst.rest k hk] at this
      cases this
     ·have:=iL hst.closed L.length i j o hLi hw (hn2 j hj)
      rw[hf] at this
      cases this
   have hFi:F[i]? =some F[i]:=by simp[hin]
   generalize hf:F[i]=f at hFi
   have hunF:listed.getD i false=false:=by rw[←kY (by rw[hst.size];exact hiL)];exact hun
   -- the values: those at hand, and whatever else
   have hcan:∃us':Nat→Value,(∀j,listed.getD j false=true→us' j=us j)∧∀(j:Nat) (f:af),F[j]? =some f→∃w,f.p w (us' j):=by
    refine⟨fun j=>if listed.getD j false=true then us j else match F[j]? with|some f=>Classical.choose (show ∃v,∃w,f.p w v from f.can.elim fun w ⟨v,h⟩=>⟨v,w,h⟩)|none=>undef,fun j hj=>if_pos hj,fun j f hfj=> ?_⟩
    by_cases e:listed.getD j false=true
    ·simp only[if_pos e];exact⟨w',hst.fact j f hfj e⟩
    ·simp only[if_neg e,hfj]
     exact Classical.choose_spec (show ∃v,∃w,f.p w v from f.can.elim fun w ⟨v,h⟩=>⟨v,w,h⟩)
   obtain⟨us',hus,hcanus⟩:=hcan
   have hW:=ou (P:=P) L F a [] L F a us' 0 (fun j=>by simp) (fun j=>by simp) (by simp) hn rfl (by simp[cz]) hcanus h
   have ht:=htidy i o hLi hin
   simp only[mJ,Bool.and_eq_true] at ht
   have hlistedOf:∀j,waitsFor o j=true→listed.getD j false=true∧j<i:=fun j hj=>by
    obtain⟨ed,hed,hb,hon⟩:=waitsFor_spec hj
    subst hon
    have:=Array.all_eq_true_iff_forall_mem.1 ht.2 ed hed
    simp only[hb,Bool.not_true,Bool.false_or,decide_eq_true_eq] at this
    exact⟨hwait ed hed hb,this⟩
   have hob:=hW.1 i o f (Nat.zero_le _) hLi hFi w' hC (fun j hj=>by
    obtain⟨hl,hji⟩:=hlistedOf j hj
    have hjF:j<F.length:=by omega
    have hfj:F[j]? =some F[j]:=by simp[hjF]
    unfold cz
    simp only[List.getD,List.getElem?_map,List.getElem?_range hji,Option.map_some,Option.getD_some,hfj]
    rw[hus j hl]
    exact hst.fact j _ hfj hl)
   have hlook:∀t∈o.looksAt L.toArray,(aJ L a us' i).tmps[t]? =a'.tmps[t]? :=by
    intro t htl
    have hm:=List.all_eq_true.1 ht.1 t htl
    by_cases hmk:∃j,makes L t j=true
    ·obtain⟨j,hmj⟩:=hmk
     have hjL:j<L.length:=by
      by_cases e:j<L.length
      ·exact e
      ·unfold makes at hmj;rw[List.getElem?_eq_none (by omega)] at hmj;cases hmj
     have h5:=List.all_eq_true.1 hm j (List.mem_range.2 hjL)
     simp only[hmj,Bool.not_true,Bool.false_or,Bool.and_eq_true,decide_eq_true_eq] at h5
     obtain⟨hl,hji⟩:=hlistedOf j h5.1
     have hts:t<a.tmps.size:=by
      have hmj2:=hmj
      unfold makes at hmj2
      cases hL:L[j]? with
      |none=>simp[hL] at hmj2
      |some o'=>simp only[hL] at hmj2;exact hsize j o' t hL (by simpa using hmj2)
     rw[gK hmj hts i hji (fun k hk hne=>huniq j t (by omega) hmj k (by omega) hne),hst.made j t hl hmj,hus j hl]
    ·have hno:∀j,makes L t j=false:=fun j=>by
      by_cases e:makes L t j=true
      ·exact absurd ⟨j,e⟩ hmk
      ·simpa using e
     rw[iG i fun j _=>hno j,hst.kept t fun j _=>hno j]
   obtain⟨he1,he2⟩:=rQ (ops:=L.toArray) (o:=o) (fun cs b=>Region.noSelect_spec hsel i o cs b ho) hlook
   rw[he2] at hob
   unfold bU at hob
   rw[he1] at hob
   -- what stands behind it
   have hnext:∀(v:Value) (w'':World),Below w'.heap.size w' w''→f.p w'' v→wpAny P .any L.toArray Q (m+(L.length-F.length)) (listed.setIfInBounds i true) (a'.put o.dst v) w'':=by
    intro v w'' hb hp
    have his:i<listed.size:=by rw[hst.size];exact hiL
    refine ih _ _ _ (fun j=>if j=i then v else us j) ?_ ⟨?_,?_,?_,?_,?_,?_,?_,?_⟩ (hC.trans (hb.mono hC.size))
    ·have hit:i<(listed.toList.take F.length).length:=by simp;omega
     have hv:(listed.toList.take F.length)[i]=false:=by
      rw[List.getElem_take]
      simpa[his] using hunF
     rw[Array.toList_setIfInBounds,List.take_set,List.count_set hit,hv,hcount]
     simp
    ·simp[hst.size]
    ·intro j hj
     rw[dR _ _ _ his,if_neg (by omega)]
     exact hst.rest j hj
    ·exact(ku _ _ _).1.trans hst.tmps
    ·exact(ku _ _ _).2.trans hst.defers
    ·intro t hno
     have h0:makes L t i=false:=hno i (by rw[dR _ _ _ his,if_pos rfl])
     have h1:a'.tmps[t]? =a.tmps[t]? :=hst.kept t fun j hj=>hno j (by rw[dR _ _ _ his];split<;>simp_all)
     unfold makes at h0
     simp only[hLi] at h0
     cases hd:o.dst with
     |none=>exact h1
     |some d=>
      have hne:d≠t:=by simpa[hd] using h0
      show(Array.setIfInBounds _ d _)[t]? =_
      rw[Array.getElem?_setIfInBounds_ne hne];exact h1
    ·intro j t hl hm
     rw[dR _ _ _ his] at hl
     by_cases hji:j=i
     ·subst hji
      rw[if_pos rfl]
      unfold makes at hm
      simp only[hLi] at hm
      have hd:o.dst=some t:=by simpa using hm
      rw[nU hd]
      rw[Array.getElem?_setIfInBounds_self_of_lt (by rw[hst.tmps];exact hsize j o t hLi hd)]
     ·rw[if_neg (fun e=>hji e.symm)] at hl
      rw[if_neg hji]
      have h1:=hst.made j t hl hm
      have hjF:j<F.length:=by
       by_cases e:j<F.length
       ·exact e
       ·rw[hst.rest j (by omega)] at hl;cases hl
      have h0:makes L t i=false:=huniq j t hjF hm i hin (Ne.symm hji)
      unfold makes at h0
      simp only[hLi] at h0
      cases hd:o.dst with
      |none=>exact h1
      |some d=>
       have hne:d≠t:=by simpa[hd] using h0
       show(Array.setIfInBounds _ d _)[t]? =_
       rw[Array.getElem?_setIfInBounds_ne hne];exact h1
    ·intro j f' hfj hl
     rw[dR _ _ _ his] at hl
     by_cases hji:j=i
     ·subst hji
      rw[hFi] at hfj
      cases hfj
      rw[if_pos rfl];exact hp
     ·rw[if_neg (fun e=>hji e.symm)] at hl
      rw[if_neg hji]
      exact f'.stays _ _ _ hb (hst.fact j f' hfj hl)
    ·intro j o' k hLj hl hwk
     rw[dR _ _ _ his]
     by_cases hki:i=k
     ·rw[if_pos hki]
     ·rw[if_neg hki]
      rw[dR _ _ _ his] at hl
      by_cases hji:i=j
      ·subst hji
       rw[hLi] at hLj
       cases hLj
       obtain⟨ed,hed,hb2,hon⟩:=waitsFor_spec hwk
       rw[←hon];exact hwait ed hed hb2
      ·rw[if_neg hji] at hl
       exact hst.closed j o' k hLj hl hwk
   unfold wpOp
   simp only[ho]
   by_cases hw:Region.wanted o (yielded L.toArray a'.tmps)=true
   ·simp only[hw,if_true] at hob ⊢
    refine .inl ?_
    unfold Oper.wp
    generalize (execOp a'.eval o).run P w'=r at*
    cases r with
    |ok n w2=>
     cases n<;>simp only[bO] at hob<;>simp only[Oper.upon]
     case value u=>exact hnext u w2 hob.1 hob.2
     case skip=>exact hnext undef w2 hob.1 hob.2
     case enter g args=>
      refine hob.mono fun e w3 ⟨v,he,hb,hp⟩=> ?_
      subst he
      exact hnext v w3 hb hp
    |halt x w2=>simp only[bO] at hob
   ·simp only[hw] at hob ⊢
    exact hnext undef w' (Below.refl _ _) hob
theorem gy{id:Nat}{L:List Oper}{a:Act}{w:World}(F:List af)(hm:P.follows .mixedOrders=true)(hB:lJ L F.length a.tmps.size=true)
  (h:dE P L.toArray (fun w'=>Below w.heap.size w w') (fun a' w'=>wpAny P .any L.toArray Q (L.length-F.length) (fU L.length F.length) a' w') L F a []):
  (Code.region id L.toArray true).wp P Q a w:=by
 refine wp_region_any hm ?_
 have hn:F.length≤L.length:=(jd hB).2.1
 have:=qg hB h F.length (Array.replicate L.length false) a {w with drawn:=w.drawn+1} (fun _=>undef) (by
   rw[Array.toList_replicate,List.take_replicate,List.count_replicate_self];omega) ⟨by simp,fun j _=>by
    by_cases e:j<L.length<;>simp[e],rfl,rfl,fun _ _=>rfl,fun j _ hl=>by
    exfalso
    by_cases e:j<L.length<;>simp[e] at hl,fun j _ _ hl=>by
    exfalso
    by_cases e:j<L.length<;>simp[e] at hl,fun j _ _ _ hl _=>by
    exfalso
    by_cases e:j<L.length<;>simp[e] at hl⟩ ⟨rfl,rfl,rfl,Nat.le_refl _,fun _ _=>rfl⟩
 rw[show F.length+(L.length-F.length)=L.toArray.size by simp;omega] at this
 simpa using this
end
section
variable {P:Program} {Q:Exit→Act→World→Prop}
theorem bB{id:Nat}{L:List Oper}{a:Act}{w:World}(F:List af)(hm:P.follows .mixedOrders=true)(hB:lJ L F.length a.tmps.size=true)(hlen:F.length=L.length)
  (hnone:Region.ready .any L.toArray (fU L.length L.length)=[])
  (h:∀(ops:Array Oper) (K:Act→World→Prop),ops=L.toArray→(∀a' w',Q .normal a' w'→K a' w')→dE P ops (fun w'=>Below w.heap.size w w') K L F a []):
  (Code.region id L.toArray true).wp P Q a w:=
 gy F hm hB (h _ _ rfl fun a' w' hQ=>by rw[hlen];exact wpAny_done hnone hQ _)
end
def qz(ops:Array Oper):Nat→Nat→Array Bool→Bool
 |0,_,listed=>(Region.ready .any ops listed).isEmpty
 |n+1,k,listed=>decide (Region.ready .any ops listed=[k])&&qz ops n (k+1) (listed.setIfInBounds k true)
section
variable {P:Program} {Q:Exit→Act→World→Prop}
theorem xe{ops:Array Oper}:∀(l:List Oper) (k:Nat) (listed:Array Bool) (a:Act) (w:World),(∀j,l[j]? =ops[k+j]?)→qz ops l.length k listed=true→
  wpList P ops Q l a w→wpAny P .any ops Q l.length listed a w
 |[],_,_,_,_,_,hB,h=>⟨by simpa[qz] using hB,h⟩
 |o::l,k,listed,a,w,hl,hB,h=>by
  have h0:ops[k]? =some o:=by simpa using(hl 0).symm
  simp only[List.length_cons,qz,Bool.and_eq_true,decide_eq_true_eq] at hB
  refine wpAny_all hB.1 (by simp) fun i hi=> ?_
  have hik:i=k:=by simpa using hi
  subst hik
  have hn:=fun a w=>xe l (i+1) (listed.setIfInBounds i true) a w (fun j=>by have:=hl (j+1);simpa[Nat.add_assoc,Nat.add_comm 1 j] using this) hB.2
  refine wpOp_mono (K:=wpList P ops Q l) hn ?_
  unfold wpOp
  simp only[h0]
  unfold wpList at h
  exact h
theorem pq{id:Nat}{L:List Oper}{a:Act}{w:World}(F:List af)(hm:P.follows .mixedOrders=true)(hB:lJ L F.length a.tmps.size=true)
  (hf:qz L.toArray (L.drop F.length).length F.length (fU L.length F.length)=true)
  (h:∀(ops:Array Oper) (K:Act→World→Prop),ops=L.toArray→(∀a' w',wpList P L.toArray Q (L.drop F.length) a' w'→K a' w')→dE P ops (fun w'=>Below w.heap.size w w') K L F a []):
  (Code.region id L.toArray true).wp P Q a w:=
 gy F hm hB (h _ _ rfl fun a' w' hQ=>by
  have:=xe (P:=P) (Q:=Q) (ops:=L.toArray) (L.drop F.length) F.length (fU L.length F.length) a' w' (fun j=>by simp) hf hQ
  rw[List.length_drop] at this
  exact this)
end
theorem ae{ops:Array Oper}{o:Oper}{a:Act}(hg:o.guard=none):Region.wanted o (yielded ops a.tmps)=true:=by unfold Region.wanted;rw[hg]
theorem aA{L:List Oper}{ops:Array Oper}{o og:Oper}{a:Act}{g:Nat}{b:Bool}{t:Tmp}(hops:ops=L.toArray)(hg:o.guard=some (g,b))(h1:L[g]? =some og)(h2:og.dst=some t)(h3:a.tmps[t]? =some (.bool b)):Region.wanted o (yielded ops a.tmps)=true:=by
 subst hops
 unfold Region.wanted yielded
 simp[hg,h1,h2,h3]
theorem dn{L:List Oper}{ops:Array Oper}{o og:Oper}{a:Act}{g:Nat}{b:Bool}{t:Tmp}(hops:ops=L.toArray)(hg:o.guard=some (g,b))(h1:L[g]? =some og)(h2:og.dst=some t)(h3:a.tmps[t]? =some (.bool (!b))):Region.wanted o (yielded ops a.tmps)=false:=by
 subst hops
 unfold Region.wanted yielded
 simp[hg,h1,h2,h3]
theorem kM{P:Program}{ops:Array Oper}{C:World→Prop}{K:Act→World→Prop}{o:Oper}{l:List Oper}{f:af}{fs:List af}{a:Act}{known:List (World→Prop)}(hw:Region.wanted o (yielded ops a.tmps)=true)
  (h1:∀w,C w→fF o known w→bU P o a w f.p)
  (h2:∀u,(∃w,f.p w u)→dE P ops C K l fs (a.put o.dst u) (known++[fun w=>f.p w u])):dE P ops C K (o::l) (f::fs) a known:=
 kw (fun w hC hd=>by rw[if_pos hw];exact h1 w hC hd) h2
theorem aa{P:Program}{ops:Array Oper}{C:World→Prop}{K:Act→World→Prop}{o:Oper}{l:List Oper}{v:Value}{fs:List af}{a:Act}{known:List (World→Prop)}(hw:Region.wanted o (yielded ops a.tmps)=true)
  (h1:∀w,C w→fF o known w→bU P o a w (af.is v).p) {a':Act} (ha:a.put o.dst v=a') {known':List (World→Prop)} (hk:known++[fun w=>True]=known')
  (h2:dE P ops C K l fs a' known'):dE P ops C K (o::l) (af.is v::fs) a known:=
 kM hw h1 fun u hu=>by
  have:=af.vJ hu
  subst this
  have e:(fun w=>(af.is u).p w u)=fun _:World=>True:=by funext w;exact propext ⟨fun _=>trivial,fun _=>rfl⟩
  rw[e,ha,hk]
  exact h2
theorem aG{P:Program}{ops:Array Oper}{C:World→Prop}{K:Act→World→Prop}{o:Oper}{l:List Oper}{fs:List af}{a:Act}{known:List (World→Prop)}(hw:Region.wanted o (yielded ops a.tmps)=false)
  {a':Act} (ha:a.put o.dst undef=a') {known':List (World→Prop)} (hk:known++[fun w=>True]=known')
  (h2:dE P ops C K l fs a' known'):dE P ops C K (o::l) (af.is undef::fs) a known:=
 kw (fun w hC hd=>by rw[if_neg (by rw[hw];exact Bool.false_ne_true)];exact rfl) fun u hu=>by
  have:=af.vJ hu
  subst this
  have e:(fun w=>(af.is undef).p w undef)=fun _:World=>True:=by funext w;exact propext ⟨fun _=>trivial,fun _=>rfl⟩
  rw[e,ha,hk]
  exact h2
theorem eZ{P:Program}{ops:Array Oper}{C:World→Prop}{K:Act→World→Prop}{o:Oper}{l:List Oper}{k:IntKind}{zs:List Int}{n:Nat}{fs:List af}{a:Act}{known:List (World→Prop)}(hw:Region.wanted o (yielded ops a.tmps)=true)(hn:zs.length=n)
  (h1:∀w,C w→fF o known w→bU P o a w (af.row k zs).p)
  {a':Option Addr→Nat→Act} (ha:∀ad cap,a.put o.dst (.slice ad n cap)=a' ad cap) {known':Option Addr→List (World→Prop)} (hk:∀ad,known++[fun w=>Row w k ad zs]=known' ad)
  (h2:∀ad cap,dE P ops C K l fs (a' ad cap) (known' ad)):dE P ops C K (o::l) (af.row k zs::fs) a known:=
 kM hw h1 fun u hu=>by
  obtain⟨ad,cap,rfl⟩:=af.NY hu
  have e:(fun w=>(af.row k zs).p w (.slice ad zs.length cap))=fun w:World=>Row w k ad zs:=by
   funext w
   refine propext ⟨?_,fun h=>⟨ad,cap,rfl,h⟩⟩
   rintro⟨ad',cap',h,hr⟩
   cases h
   exact hr
  rw[e,hn,ha,hk]
  exact h2 ad cap
theorem aD{P:Program}{o:Oper}{a:Act}{w:World}{p:World→Value→Prop}(t1:Tmp)(x1:Value)(e1:a.eval (.tmp t1)=x1)
  (h:∀ρ:Operand→Value,(∀v,ρ (.const v)=v)→(∀f,ρ (.func f)=.func (.func f) #[] #[])→ρ (.tmp t1)=x1→bO P w p ((execOp ρ o).run P w)):bU P o a w p:=
 h a.eval (fun _=>rfl) (fun _=>rfl) e1
theorem bP{P:Program}{o:Oper}{a:Act}{w:World}{p:World→Value→Prop}(t1:Tmp)(x1:Value)(t2:Tmp)(x2:Value)(e1:a.eval (.tmp t1)=x1)(e2:a.eval (.tmp t2)=x2)
  (h:∀ρ:Operand→Value,(∀v,ρ (.const v)=v)→(∀f,ρ (.func f)=.func (.func f) #[] #[])→ρ (.tmp t1)=x1→ρ (.tmp t2)=x2→bO P w p ((execOp ρ o).run P w)):bU P o a w p:=
 h a.eval (fun _=>rfl) (fun _=>rfl) e1 e2
theorem Qm{P:Program}{o:Oper}{a:Act}{w:World}{p:World→Value→Prop}(t1:Tmp)(x1:Value)(t2:Tmp)(x2:Value)(t3:Tmp)(x3:Value)(t4:Tmp)(x4:Value)(t5:Tmp)(x5:Value)(t6:Tmp)(x6:Value)(t7:Tmp)(x7:Value)(t8:Tmp)(x8:Value)
  (e1:a.eval (.tmp t1)=x1) (e2:a.eval (.tmp t2)=x2) (e3:a.eval (.tmp t3)=x3) (e4:a.eval (.tmp t4)=x4) (e5:a.eval (.tmp t5)=x5) (e6:a.eval (.tmp t6)=x6) (e7:a.eval (.tmp t7)=x7) (e8:a.eval (.tmp t8)=x8)
  (h:∀ρ:Operand→Value,(∀v,ρ (.const v)=v)→(∀f,ρ (.func f)=.func (.func f) #[] #[])→ρ (.tmp t1)=x1→ρ (.tmp t2)=x2→ρ (.tmp t3)=x3→ρ (.tmp t4)=x4→ρ (.tmp t5)=x5→ρ (.tmp t6)=x6→ρ (.tmp t7)=x7→ρ (.tmp t8)=x8→bO P w p ((execOp ρ o).run P w)):bU P o a w p:=
 h a.eval (fun _=>rfl) (fun _=>rfl) e1 e2 e3 e4 e5 e6 e7 e8
theorem aj{P:Program}{o:Oper}{a:Act}{w:World}{v:Value}(x:Operand)(h:o.op=.move x∨o.op=.assign x)(hv:a.eval x=v):bU P o a w (af.is v).p:=by
 unfold bU execOp
 rcases h with h|h<;>(rw[h];exact⟨Below.refl _ _,hv⟩)
theorem dZ{P:Program}{o:Oper}{a:Act}{w:World}{v:Value}(c x y:Operand)(b:Bool)(h:o.op=.pick c x y)(hc:a.eval c=.bool b)(hv:(if b then a.eval x else a.eval y)=v):bU P o a w (af.is v).p:=by
 unfold bU execOp
 rw[h]
 simp only[hc]
 subst hv
 cases b<;>exact⟨Below.refl _ _,rfl⟩
theorem Ql{P:Program}{o:Oper}{a:Act}{w:World}{p:World→Value→Prop}(t1:Tmp)(x1:Value)(t2:Tmp)(x2:Value)(t3:Tmp)(x3:Value)(e1:a.eval (.tmp t1)=x1)(e2:a.eval (.tmp t2)=x2)(e3:a.eval (.tmp t3)=x3)
  (h:∀ρ:Operand→Value,(∀v,ρ (.const v)=v)→(∀f,ρ (.func f)=.func (.func f) #[] #[])→ρ (.tmp t1)=x1→ρ (.tmp t2)=x2→ρ (.tmp t3)=x3→bO P w p ((execOp ρ o).run P w)):bU P o a w p:=
 h a.eval (fun _=>rfl) (fun _=>rfl) e1 e2 e3
theorem ay{P:Program}{w:World}{v:Value}{r:Result Next}(h:r=.ok (.value v) w):bO P w (af.is v).p r:=by
 rw[h];exact⟨Below.refl _ _,rfl⟩
theorem upon_row{P:Program}{w:World}{k:IntKind}{zs:List Int}{cap:Nat}{t:TypeId}{r:Result Next}
  (h:r=.ok (.value (.slice (some ⟨w.heap.size,0,none⟩) zs.length cap)) (w.alloc (.cells (zs.map (Value.int k)).toArray t))):bO P w (af.row k zs).p r:=by
 rw[h];exact⟨below_new _ _,_,_,rfl,Row.lit w k zs t⟩
theorem dQ{P:Program}{w:World}{f:FuncId}{args:Array Value}{v:Value}{r:Result Next}(h:r=.ok (.enter f args) w)
  (hc:Calls P f args w fun e w'=>e=.returned v∧w=w'):bO P w (af.is v).p r:=by
 rw[h];exact hc.mono fun e w' ⟨he,hw⟩=>⟨v,he,hw▸Below.refl _ _,rfl⟩
theorem gX{P:Program}{w:World}{f:FuncId}{args:Array Value}{v:Value}{r:Result Next}(h:r=.ok (.enter f args) w)
  (hc:Calls P f args w fun e w'=>e=.returned v∧Below w.heap.size w w'):bO P w (af.is v).p r:=by
 rw[h];exact hc.mono fun e w' ⟨he,hw⟩=>⟨v,he,hw,rfl⟩
section
variable {P:Program} {Q:Exit→Act→World→Prop}
def sN(P:Program)(Q:Exit→Act→World→Prop):List Oper→Act→World→Prop
 |[],a,w=>Q .normal a w
 |o::l,a,w=>∃v t,o.dst=some t∧o.guard=none∧(∀w,(execOp a.eval o).run P w=.ok (.value v) w)∧sN P Q l (a.put o.dst v) w
def vz(ops:Array Oper):Nat→Nat→Array Bool→Bool
 |0,_,listed=>(Region.ready .any ops listed).isEmpty
 |n+1,k,listed=>(Region.free .any ops listed k&&(Region.ready .any ops listed).contains k)&&vz ops n (k+1) (listed.setIfInBounds k true)
theorem ul{ops:Array Oper}(hsel:Region.noSelect ops=true)(hQ:∀c (a:Act) (d:Tmp) (v:Value) (w:World),Q (.panic c) (a.put (some d) v) w→Q (.panic c) a w):
  ∀(l:List Oper) (k:Nat) (listed:Array Bool) (a:Act) (w:World),(∀j,l[j]? =ops[k+j]?)→vz ops l.length k listed=true→sN P Q l a w→wpAny P .any ops Q l.length listed a w
 |[],_,_,_,_,_,hB,h=>⟨by simpa[vz] using hB,h⟩
 |o::l,k,listed,a,w,hl,hB,⟨v,t,hd,hg,hv,h⟩=>by
  have h0:ops[k]? =some o:=by simpa using(hl 0).symm
  simp only[List.length_cons,vz,Bool.and_eq_true] at hB
  exact wpAny_take (i:=k) (v:=v) h0 hsel hB.1.1 hB.1.2 (fun c a w=>by rw[hd];exact hQ c a t v w) (.inl ⟨by unfold Region.wanted;rw[hg],hv⟩)
   (ul hsel hQ l (k+1) _ _ w (fun j=>by have:=hl (j+1);simpa[Nat.add_assoc,Nat.add_comm 1 j] using this) hB.2 h)
theorem qh{id:Nat}{L:List Oper}{a:Act}{w:World}(F:List af)(hm:P.follows .mixedOrders=true)(hB:lJ L F.length a.tmps.size=true){o:Oper}{l:List Oper}(hd:L.drop F.length=o::l)(hg:o.guard=none)
  (hr:Region.ready .any L.toArray (fU L.length F.length)=[F.length]) (hf:vz L.toArray l.length (F.length+1) ((fU L.length F.length).setIfInBounds F.length true)=true)
  (hQ:∀c (a:Act) (d:Tmp) (v:Value) (w:World),Q (.panic c) (a.put (some d) v) w→Q (.panic c) a w)
  (h:∀(ops:Array Oper) (K:Act→World→Prop),ops=L.toArray→(∀a' w',(∀K2:Act→World→Prop,(∀a w,sN P Q l a w→K2 a w)→o.wp P a' w' K2 Q)→K a' w')→dE P ops (fun w'=>Below w.heap.size w w') K L F a []):
  (Code.region id L.toArray true).wp P Q a w:=
 gy F hm hB (h _ _ rfl fun a' w' h1=>by
  have hlen:L.length-F.length=l.length+1:=by rw[←List.length_drop,hd];rfl
  have hat:∀j,(o::l)[j]? =L[F.length+j]? :=fun j=>by rw[←hd,List.getElem?_drop]
  rw[hlen]
  refine wpAny_all hr (by simp) fun i hi=> ?_
  have hik:i=F.length:=by simpa using hi
  subst hik
  have h0:L.toArray[F.length]? =some o:=by have:=hat 0;simpa using this.symm
  refine wpOp_step h0 fun K' hK'=> ?_
  rw[if_pos (by unfold Region.wanted;rw[hg])]
  refine h1 K' fun a2 w2 h2=>hK' _ _ (ul (jd hB).1 hQ l (F.length+1) _ a2 w2 (fun j=> ?_) hf h2)
  have:=hat (j+1)
  simpa[Nat.add_assoc,Nat.add_comm 1 j] using this)
theorem eB{o:Oper}{l:List Oper}{a:Act}{w:World}(v:Value){t:Tmp}(hd:o.dst=some t)(hg:o.guard=none)(hv:∀w,(execOp a.eval o).run P w=.ok (.value v) w){a':Act}(ha:a.put o.dst v=a')(h:sN P Q l a' w):sN P Q (o::l) a w:=
 ⟨v,t,hd,hg,hv,ha▸h⟩
theorem zu{a:Act}{w:World}(h:Q .normal a w):sN P Q [] a w:=h
end
end Go.Proofs.YtjmifnljckmimaaGreat.Pk
namespace Go.Proofs.YtjmifnljckmimaaGreat.Pk.TX
open Go.RowKit
set_option linter.unusedVariables false
set_option linter.unusedSimpArgs false
structure sV where
 r:World→World→Prop
 refl:∀w,r w w
 trans:∀{a b c},r a b→r b c→r a c
 below:∀{a b},Below a.heap.size a b→r a b
structure af (T:sV) where
 p:World→Value→Prop
 stays:∀w w' v,T.r w w'→p w v→p w' v
 can:∃w v,p w v
def af.is{T:sV}(v:Value):af T:=⟨fun _ u=>u=v,fun _ _ _ _ h=>h,⟨default,v,rfl⟩⟩
def af.any{T:sV}:af T:=⟨fun _ _=>True,fun _ _ _ _ _=>trivial,⟨default,undef,trivial⟩⟩
theorem af.vJ{T:sV}{v u:Value}(h:∃w,(af.is (T:=T) v).p w u):u=v:=h.elim fun _ h=>h
def bO(T:sV)(P:Program)(w:World)(p:World→Value→Prop):Result Next→Prop
 | .ok (.value u) w'=>T.r w w'∧p w' u
 | .ok .skip w'=>T.r w w'∧p w' undef
 | .ok (.enter f args) w'=>Calls P f args w' (fun e w''=>∃v,e=.returned v∧T.r w w''∧p w'' v)
 |_=>False
def bU(T:sV)(P:Program)(o:Oper)(a:Act)(w:World)(p:World→Value→Prop):Prop:=bO T P w p ((execOp a.eval o).run P w)
def waitsFor(o:Oper)(j:Nat):Bool:=o.after.any fun e=>Region.binds .any e&&e.on==j
def fF(o:Oper)(known:List (World→Prop))(w:World):Prop:=∀j,waitsFor o j=true→(known.getD j fun _=>True) w
def dE{T:sV}(P:Program)(ops:Array Oper)(C:World→Prop)(K:Act→World→Prop):List Oper→List (af T)→Act→List (World→Prop)→Prop
 |o::l,f::fs,a,known=>
  (∀w,C w→fF o known w→if Region.wanted o (yielded ops a.tmps) then bU T P o a w f.p else f.p w undef)∧
  ∀u,(∃w,f.p w u)→dE P ops C K l fs (a.put o.dst u) (known++[fun w=>f.p w u])
 |_,_,a,known=>∀w,C w→(∀j,(known.getD j fun _=>True) w)→K a w
theorem kw{T:sV}{P:Program}{ops:Array Oper}{C:World→Prop}{K:Act→World→Prop}{o:Oper}{l:List Oper}{f:af T}{fs:List (af T)}{a:Act}{known:List (World→Prop)}
  (h1:∀w,C w→fF o known w→if Region.wanted o (yielded ops a.tmps) then bU T P o a w f.p else f.p w undef)
  (h2:∀u,(∃w,f.p w u)→dE P ops C K l fs (a.put o.dst u) (known++[fun w=>f.p w u])):dE P ops C K (o::l) (f::fs) a known:=⟨h1,h2⟩
theorem fJ{T:sV}{P:Program}{ops:Array Oper}{C:World→Prop}{K:Act→World→Prop}{l:List Oper}{a:Act}{known:List (World→Prop)}
  (h:∀w,C w→(∀j,(known.getD j fun _=>True) w)→K a w):dE (T:=T) P ops C K l [] a known:=by
 cases l<;>exact h
def aJ(ops:List Oper)(a:Act)(us:Nat→Value):Nat→Act
 |0=>a
 |i+1=>match ops[i]? with
  |some o=>(aJ ops a us i).put o.dst (us i)
  |none=>aJ ops a us i
def cz{T:sV}(fs:List (af T))(us:Nat→Value)(i:Nat):List (World→Prop):=(List.range i).map fun j=>fun w=>(fs.getD j (af.any (T:=T))).p w (us j)
theorem lZ{T:sV}(fs:List (af T))(us:Nat→Value)(i:Nat){f:af T}(hf:fs[i]? =some f):cz fs us (i+1)=cz fs us i++[fun w=>f.p w (us i)]:=by
 unfold cz
 rw[List.range_succ,List.map_append]
 simp[List.getD,hf]
section
variable {P:Program} {C:World→Prop} {K:Act→World→Prop}
theorem ou{T:sV}{ops:Array Oper}:∀(l:List Oper) (fs:List (af T)) (a:Act) (known:List (World→Prop)) (L:List Oper) (F:List (af T)) (A:Act) (us:Nat→Value) (k:Nat),
  (∀j,l[j]? =L[k+j]?)→(∀j,fs[j]? =F[k+j]?)→k+fs.length=F.length→F.length≤L.length→a=aJ L A us k→known=cz F us k→(∀j (f:af T),F[j]? =some f→∃w,f.p w (us j))→
  dE P ops C K l fs a known→
  (∀i o f,k≤i→L[i]? =some o→F[i]? =some f→∀w,C w→fF o (cz F us i) w→if Region.wanted o (yielded ops (aJ L A us i).tmps) then bU T P o (aJ L A us i) w f.p else f.p w undef)∧
  (∀w,C w→(∀j,((cz F us F.length).getD j fun _=>True) w)→K (aJ L A us F.length) w):=by
 intro l
 induction l with
 |nil=>
  intro fs a known L F A us k hl hf hk hFL ha hkn hus h
  have hL:L.length≤k:=by
   have:=hl 0
   rw[List.getElem?_nil] at this
   have:=this.symm
   rw[List.getElem?_eq_none_iff] at this
   omega
  have hfs:fs=[]:=by
   cases fs with
   |nil=>rfl
   |cons f fs=>simp at hk;omega
  subst hfs
  have hkF:k=F.length:=by simpa using hk
  subst ha hkn hkF
  refine⟨fun i o f hki _ hFi=> ?_,fun w hC hj=>h w hC hj⟩
  have:=List.getElem?_eq_none_iff.2 hki
  rw[this] at hFi
  cases hFi
 |cons o l ih=>
  intro fs a known L F A us k hl hf hk hFL ha hkn hus h
  cases fs with
  |nil=>
   have hkF:k=F.length:=by simpa using hk
   subst ha hkn hkF
   refine⟨fun i o f hki _ hFi=> ?_,fun w hC hj=>h w hC hj⟩
   have:=List.getElem?_eq_none_iff.2 hki
   rw[this] at hFi
   cases hFi
  |cons f fs=>
   obtain⟨h1,h2⟩:=h
   have hLk:L[k]? =some o:=by simpa using(hl 0).symm
   have hFk:F[k]? =some f:=by simpa using(hf 0).symm
   have h3:=h2 (us k) (hus k f hFk)
   have:=ih fs _ _ L F A us (k+1) (fun j=>by have:=hl (j+1);simpa[Nat.add_assoc,Nat.add_comm 1 j] using this) (fun j=>by have:=hf (j+1);simpa[Nat.add_assoc,Nat.add_comm 1 j] using this)
    (by simp at hk;omega) hFL (by rw[ha];simp[aJ,hLk]) (by rw[hkn,lZ _ _ _ hFk]) hus h3
   refine⟨fun i o' f' hki hLi hFi w hC hd=> ?_,this.2⟩
   by_cases hik:i=k
   ·subst hik
    rw[hLk] at hLi;rw[hFk] at hFi
    cases hLi;cases hFi
    subst ha hkn
    exact h1 w hC hd
   ·exact this.1 i o' f' (by omega) hLi hFi w hC hd
end
def makes(ops:List Oper)(t:Tmp)(j:Nat):Bool:=match ops[j]? with|some o=>o.dst==some t|none=>false
def mJ(ops:List Oper)(i:Nat)(o:Oper):Bool:=
 (o.looksAt ops.toArray).all (fun t=>(List.range ops.length).all fun j=> !makes ops t j||(waitsFor o j&&decide (j<i)))&&
 o.after.all (fun e=> !Region.binds .any e||decide (e.on<i))
def needs(ops:List Oper):Nat→Nat→Nat→Bool
 |0,_,_=>false
 |f+1,i,j=>match ops[i]? with
  |some o=>waitsFor o j||(List.range ops.length).any fun k=>waitsFor o k&&needs ops f k j
  |none=>false
def lJ(ops:List Oper)(n:Nat)(size:Nat):Bool:=
 Region.noSelect ops.toArray&&decide (n≤ops.length)&&
 (List.range ops.length).all (fun i=>match ops[i]? with
  |some o=>(if decide (i<n) then mJ ops i o else((List.range ops.length).any fun k=>decide (n≤k)&&waitsFor o k)||(List.range n).all fun j=>needs ops ops.length i j)&&
    (match o.dst with
     |some t=>decide (t<size)&&(List.range n).all fun j=>decide (j=i)|| !makes ops t j||decide (n≤i)
     |none=>true)
  |none=>true)
theorem waitsFor_spec{o:Oper}{j:Nat}(h:waitsFor o j=true):∃e∈o.after,Region.binds .any e=true∧e.on=j:=by
 obtain⟨e,he,hb⟩:=Array.any_eq_true'.1 h
 simp only[Bool.and_eq_true,beq_iff_eq] at hb
 exact⟨e,he,hb.1,hb.2⟩
theorem nU{a:Act}{o:Oper}{t:Tmp}(h:o.dst=some t)(v:Value):a.put o.dst v={a with tmps:=a.tmps.setIfInBounds t v}:=by rw[h];rfl
theorem dG{ops:List Oper}{a:Act}{us:Nat→Value}{i:Nat}{o:Oper}(h:ops[i]? =some o):aJ ops a us (i+1)=(aJ ops a us i).put o.dst (us i):=by
 simp only[aJ,h]
theorem fB{ops:List Oper}{a:Act}{us:Nat→Value}{i:Nat}(h:ops[i]? =none):aJ ops a us (i+1)=aJ ops a us i:=by
 simp only[aJ,h]
theorem iG{ops:List Oper}{a:Act}{us:Nat→Value}{t:Tmp}:∀(i:Nat),(∀j,j<i→makes ops t j=false)→(aJ ops a us i).tmps[t]? =a.tmps[t]? :=by
 intro i
 induction i with
 |zero=>intro _;rfl
 |succ i ih=>
  intro h
  have h1:=ih fun j hj=>h j (by omega)
  have h2:=h i (by omega)
  unfold makes at h2
  cases ho:ops[i]? with
  |none=>rw[fB ho];exact h1
  |some o=>
   simp only[ho] at h2
   rw[dG ho]
   cases hd:o.dst with
   |none=>exact h1
   |some d=>
    have hne:d≠t:=by simpa[hd] using h2
    show(Array.setIfInBounds _ d _)[t]? =_
    rw[Array.getElem?_setIfInBounds_ne hne]
    exact h1
theorem ku(a:Act)(d:Option Tmp)(v:Value):(a.put d v).tmps.size=a.tmps.size∧(a.put d v).defers=a.defers:=by
 cases d with
 |none=>exact⟨rfl,rfl⟩
 |some t=>exact⟨by simp[Act.put],rfl⟩
theorem iF{ops:List Oper}{a:Act}{us:Nat→Value}:∀(i:Nat),(aJ ops a us i).tmps.size=a.tmps.size∧(aJ ops a us i).defers=a.defers:=by
 intro i
 induction i with
 |zero=>exact⟨rfl,rfl⟩
 |succ i ih=>
  cases ho:ops[i]? with
  |none=>rw[fB ho];exact ih
  |some o=>rw[dG ho];have:=ku (aJ ops a us i) o.dst (us i);exact⟨this.1.trans ih.1,this.2.trans ih.2⟩
theorem gK{ops:List Oper}{a:Act}{us:Nat→Value}{t:Tmp}{j:Nat}(hj:makes ops t j=true)(ht:t<a.tmps.size):∀(i:Nat),j<i→(∀k,k<i→k≠j→makes ops t k=false)→(aJ ops a us i).tmps[t]? =some (us j):=by
 intro i
 induction i with
 |zero=>intro h;omega
 |succ i ih=>
  intro h hu
  by_cases hij:j=i
  ·subst hij
   unfold makes at hj
   cases ho:ops[j]? with
   |none=>simp[ho] at hj
   |some o=>
    simp only[ho] at hj
    have hd:o.dst=some t:=by simpa using hj
    rw[dG ho]
    simp only[nU hd]
    rw[Array.getElem?_setIfInBounds_self_of_lt (by rw[(iF j).1];exact ht)]
  ·have h1:=ih (by omega) fun k hk=>hu k (by omega)
   have h2:=hu i (by omega) (by omega)
   unfold makes at h2
   cases ho:ops[i]? with
   |none=>rw[fB ho];exact h1
   |some o=>
    simp only[ho] at h2
    rw[dG ho]
    cases hd:o.dst with
    |none=>exact h1
    |some d=>
     have hne:d≠t:=by simpa[hd] using h2
     show(Array.setIfInBounds _ d _)[t]? =_
     rw[Array.getElem?_setIfInBounds_ne hne]
     exact h1
theorem rQ{ops:Array Oper}{o:Oper}(hs:∀cs b,o.op≠.select cs b){a a':Act}(h:∀t∈o.looksAt ops,a.tmps[t]? =a'.tmps[t]?):
  execOp a.eval o=execOp a'.eval o∧Region.wanted o (yielded ops a.tmps)=Region.wanted o (yielded ops a'.tmps):=by
 refine⟨execOp_congr o hs fun x hx=> ?_,?_⟩
 ·cases x with
  |tmp t=>
   have:=h t (List.mem_append_left _ (List.mem_filterMap.2 ⟨.tmp t,by simpa using hx,rfl⟩))
   show a.tmps.getD t undef=a'.tmps.getD t undef
   simp only[Array.getD_eq_getD_getElem?,this]
  |_=>rfl
 ·unfold Region.wanted
  cases hg:o.guard with
  |none=>rfl
  |some gw=>
   obtain⟨g,want⟩:=gw
   have hy:yielded ops a.tmps g=yielded ops a'.tmps g:=by
    unfold yielded
    cases ht:(ops[g]?).bind (·.dst) with
    |none=>rfl
    |some t=>
     have:=h t (by simp[Oper.looksAt,hg,ht])
     simp[this]
   simp only[hy]
def fU(n k:Nat):Array Bool:=((List.range n).map fun i=>decide (i<k)).toArray
structure JN {T:sV} (L:List Oper) (F:List (af T)) (a:Act) (listed:Array Bool) (a':Act) (w':World) (us:Nat→Value):Prop where
 size:listed.size=L.length
 rest:∀j,F.length≤j→listed.getD j false=false
 tmps:a'.tmps.size=a.tmps.size
 defers:a'.defers=a.defers
 kept:∀t,(∀j,listed.getD j false=true→makes L t j=false)→a'.tmps[t]? =a.tmps[t]?
 made:∀j t,listed.getD j false=true→makes L t j=true→a'.tmps[t]? =some (us j)
 fact:∀j f,F[j]? =some f→listed.getD j false=true→f.p w' (us j)
 closed:∀j o k,L[j]? =some o→listed.getD j false=true→waitsFor o k=true→listed.getD k false=true
theorem iL{L:List Oper}{listed:Array Bool}(hc:∀j o k,L[j]? =some o→listed.getD j false=true→waitsFor o k=true→listed.getD k false=true):
  ∀(f i j:Nat) (o:Oper),L[i]? =some o→(∀k,waitsFor o k=true→listed.getD k false=true)→needs L f i j=true→listed.getD j false=true
 |0,_,_,_,_,_,h=>by cases h
 |f+1,i,j,o,ho,hw,h=>by
  simp only[needs,ho,Bool.or_eq_true,List.any_eq_true,Bool.and_eq_true,List.mem_range] at h
  rcases h with h|⟨k,hk,h1,h2⟩
  ·exact hw j h
  ·have hl:=hw k h1
   exact iL hc f k j L[k] (by simp[hk]) (fun m hm=>hc k L[k] m (by simp[hk]) hl hm) h2
theorem jd{L:List Oper}{n size:Nat}(h:lJ L n size=true):Region.noSelect L.toArray=true∧n≤L.length∧
  (∀(i:Nat) (o:Oper),L[i]? =some o→i<n→mJ L i o=true)∧(∀(i:Nat) (o:Oper),L[i]? =some o→n≤i→(∃k,n≤k∧waitsFor o k=true)∨∀j,j<n→needs L L.length i j=true)∧
  (∀(i:Nat) (o:Oper) (t:Tmp),L[i]? =some o→o.dst=some t→t<size)∧
  (∀(i:Nat) (t:Tmp),i<n→makes L t i=true→∀j,j<n→j≠i→makes L t j=false):=by
 simp only[lJ,Bool.and_eq_true,decide_eq_true_eq,List.all_eq_true,List.mem_range] at h
 obtain⟨⟨h1,h2⟩,h3⟩:=h
 have hlt:∀{i:Nat} {o:Oper},L[i]? =some o→i<L.length:=fun {i o} hi=>(List.getElem?_eq_some_iff.1 hi).1
 refine⟨h1,h2,fun i o hi hn=> ?_,fun i o hi hn=> ?_,fun i o t hi hd=> ?_,fun i t hi hm j hj hne=> ?_⟩
 ·have:=h3 i (hlt hi)
  simp only[hi,Bool.and_eq_true] at this
  have h4:=this.1
  rw[if_pos (by simpa using hn)] at h4
  exact h4
 ·have:=h3 i (hlt hi)
  simp only[hi,Bool.and_eq_true] at this
  have h4:=this.1
  rw[if_neg (by simpa using hn)] at h4
  simp only[Bool.or_eq_true,List.any_eq_true,Bool.and_eq_true,decide_eq_true_eq,List.all_eq_true,List.mem_range] at h4
  rcases h4 with⟨k,_,hk⟩|h4
  ·exact .inl ⟨k,hk⟩
  ·exact .inr h4
 ·have:=h3 i (hlt hi)
  simp only[hi,hd,Bool.and_eq_true,decide_eq_true_eq] at this
  exact this.2.1
 ·unfold makes at hm
  cases hi2:L[i]? with
  |none=>simp[hi2] at hm
  |some o=>
   simp only[hi2] at hm
   have hd:o.dst=some t:=by simpa using hm
   have:=h3 i (hlt hi2)
   simp only[hi2,hd,Bool.and_eq_true,List.all_eq_true,List.mem_range] at this
   have h5:=this.2.2 j hj
   simp only[Bool.or_eq_true,decide_eq_true_eq,Bool.not_eq_true'] at h5
   rcases h5 with(h5|h5)|h5
   ·exact absurd h5 hne
   ·exact h5
   ·omega
theorem jV{listed:Array Bool}{j:Nat}(h:¬listed.getD j false=true):listed.getD j false=false:=by simpa using h
theorem kY{listed:Array Bool}{j:Nat}(hj:j<listed.size):listed.getD j true=listed.getD j false:=by simp[hj]
theorem dR(listed:Array Bool)(i j:Nat)(hi:i<listed.size):(listed.setIfInBounds i true).getD j false=if i=j then true else listed.getD j false:=by
 by_cases h:i=j
 ·subst h;simp[hi]
 ·rw[if_neg h,getD_set_ne false h]
section
variable {P:Program} {Q:Exit→Act→World→Prop}
theorem qg{T:sV}{L:List Oper}{F:List (af T)}{a:Act}{w:World}(hB:lJ L F.length a.tmps.size=true)
  (h:dE P L.toArray (fun w'=>T.r w w') (fun a' w'=>wpAny P .any L.toArray Q (L.length-F.length) (fU L.length F.length) a' w') L F a []):
  ∀(m:Nat) (listed:Array Bool) (a':Act) (w':World) (us:Nat→Value),(listed.toList.take F.length).count false=m→JN L F a listed a' w' us→T.r w w'→
   wpAny P .any L.toArray Q (m+(L.length-F.length)) listed a' w':=by
 obtain⟨hsel,hn,htidy,htail,hsize,huniq⟩:=jd hB
 intro m
 induction m with
 |zero=>
  intro listed a' w' us hcount hst hC
  rw[List.count_eq_zero] at hcount
  have hall:∀j,j<F.length→listed.getD j false=true:=by
   intro j hj
   by_cases e:listed.getD j false=true
   ·exact e
   ·exfalso
    apply hcount
    rw[List.mem_take_iff_getElem]
    have hjs:j<listed.size:=by rw[hst.size];omega
    have e2:=jV e
    refine⟨j,by simp;omega,?_⟩
    simpa[hjs] using e2
  have hlisted:listed=fU L.length F.length:=by
   apply Array.ext
   ·rw[hst.size];simp[fU]
   ·intro j h1 h2
    have h3:listed.getD j false=listed[j]:=by simp[h1]
    rw[←h3]
    simp only[fU,List.getElem_toArray,List.getElem_map,List.getElem_range]
    by_cases e:j<F.length
    ·rw[hall j e];simp[e]
    ·rw[hst.rest j (by omega)];simp[e]
  have hW:=ou (P:=P) L F a [] L F a (fun j=>if j<F.length then us j else undef) 0 (fun j=>by simp) (fun j=>by simp) (by simp) hn rfl (by simp[cz])
   (fun j f hf=>⟨w',by rw[if_pos (List.getElem?_eq_some_iff.1 hf).1];exact hst.fact j f hf (hall j (List.getElem?_eq_some_iff.1 hf).1)⟩) h
  have h2:=hW.2 w' hC (fun j=>by
   unfold cz
   by_cases hj:j<F.length
   ·have hfj:F[j]? =some F[j]:=by simp[hj]
    simp only[List.getD,List.getElem?_map,List.getElem?_range hj,Option.map_some,Option.getD_some,hfj,if_pos hj]
    exact hst.fact j _ hfj (hall j hj)
   ·simp[List.getD,hj])
  have hframe:aJ L a (fun j=>if j<F.length then us j else undef) F.length=a':=by
   have hs:=iF (ops:=L) (a:=a) (us:=fun j=>if j<F.length then us j else undef) F.length
   have ht:(aJ L a (fun j=>if j<F.length then us j else undef) F.length).tmps=a'.tmps:=by
    apply Array.ext_getElem?
    intro t
    by_cases hmk:∃j,j<F.length∧makes L t j=true
    ·obtain⟨j,hj,hmj⟩:=hmk
     have hts:t<a.tmps.size:=by
      have hmj2:=hmj
      unfold makes at hmj2
      cases hL:L[j]? with
      |none=>simp[hL] at hmj2
      |some o=>simp only[hL] at hmj2;exact hsize j o t hL (by simpa using hmj2)
     rw[gK hmj hts F.length hj (fun k hk hne=>huniq j t hj hmj k hk hne),hst.made j t (hall j hj) hmj,if_pos hj]
    ·have hno:∀j,j<F.length→makes L t j=false:=fun j hj=>by
      by_cases e:makes L t j=true
      ·exact absurd ⟨j,hj,e⟩ hmk
      ·simpa using e
     rw[iG F.length hno,hst.kept t fun j hj=>hno j ?_]
     by_cases e:j<F.length
     ·exact e
     ·rw[hst.rest j (by omega)] at hj;cases hj
   have hd:=hs.2.trans hst.defers.symm
   cases hfr:aJ L a (fun j=>if j<F.length then us j else undef) F.length with
   |mk t1 d1=>
    rw[hfr] at ht hd
    cases a' with
    |mk t2 d2=>simp only at ht hd;subst ht hd;rfl
  rw[hframe,←hlisted] at h2
  rw[Nat.zero_add]
  exact h2
 |succ m ih=>
  intro listed a' w' us hcount hst hC
  have hex:∃j,j<F.length∧listed.getD j false=false:=by
   have hmem:false∈listed.toList.take F.length:=by
    rw[←List.count_pos_iff];omega
   rw[List.mem_take_iff_getElem] at hmem
   obtain⟨j,hj,hv⟩:=hmem
   have hj1:j<F.length:=by omega
   have hj2:j<listed.size:=by
    have:j<listed.toList.length:=by omega
    simpa using this
   exact⟨j,hj1,by simpa[hj2] using hv⟩
  rw[show m+1+(L.length-F.length)=m+(L.length-F.length)+1 by omega]
  refine⟨fun hnil=> ?_,fun i hi=> ?_⟩
  ·exfalso
   have hall:∀j,j<F.length→listed.getD j false=true:=by
    intro j
    induction j using Nat.strongRecOn with
    |ind j ihj=>
     intro hj
     by_cases e:listed.getD j false=true
     ·exact e
     ·exfalso
      have hjL:j<L.length:=by omega
      have hr:j∈Region.ready .any L.toArray listed:=by
       rw[mem_ready]
       refine⟨?_,L[j],by simp[hjL],fun ed hed hb=> ?_⟩
       ·rw[kY (by rw[hst.size];exact hjL)];exact jV e
       ·have ht:=htidy j L[j] (by simp[hjL]) hj
        simp only[mJ,Bool.and_eq_true] at ht
        have:=Array.all_eq_true_iff_forall_mem.1 ht.2 ed hed
        simp only[hb,Bool.not_true,Bool.false_or,decide_eq_true_eq] at this
        exact ihj ed.on this (by omega)
      rw[hnil] at hr
      cases hr
   obtain⟨j,hj,hf⟩:=hex
   rw[hall j hj] at hf
   cases hf
  ·obtain⟨hun,o,ho,hwait⟩:=mem_ready.1 hi
   have hLi:L[i]? =some o:=by simpa using ho
   have hiL:i<L.length:=(List.getElem?_eq_some_iff.1 hLi).1
   have hin:i<F.length:=by
    by_cases e:i<F.length
    ·exact e
    ·exfalso
     obtain⟨j,hj,hf⟩:=hex
     have hw:∀k,waitsFor o k=true→listed.getD k false=true:=fun k hk=>by
      obtain⟨ed,hed,hb,hon⟩:=waitsFor_spec hk
      rw[←hon];exact hwait ed hed hb
     rcases htail i o hLi (by omega) with⟨k,hk,hwk⟩|hn2
     ·have:=hw k hwk
      rw[hst.rest k hk] at this
      cases this
     ·have:=iL hst.closed L.length i j o hLi hw (hn2 j hj)
      rw[hf] at this
      cases this
   have hFi:F[i]? =some F[i]:=by simp[hin]
   generalize hf:F[i]=f at hFi
   have hunF:listed.getD i false=false:=by rw[←kY (by rw[hst.size];exact hiL)];exact hun
   -- the values: those at hand, and whatever else
   have hcan:∃us':Nat→Value,(∀j,listed.getD j false=true→us' j=us j)∧∀(j:Nat) (f:af T),F[j]? =some f→∃w,f.p w (us' j):=by
    refine⟨fun j=>if listed.getD j false=true then us j else match F[j]? with|some f=>Classical.choose (show ∃v,∃w,f.p w v from f.can.elim fun w ⟨v,h⟩=>⟨v,w,h⟩)|none=>undef,fun j hj=>if_pos hj,fun j f hfj=> ?_⟩
    by_cases e:listed.getD j false=true
    ·simp only[if_pos e];exact⟨w',hst.fact j f hfj e⟩
    ·simp only[if_neg e,hfj]
     exact Classical.choose_spec (show ∃v,∃w,f.p w v from f.can.elim fun w ⟨v,h⟩=>⟨v,w,h⟩)
   obtain⟨us',hus,hcanus⟩:=hcan
   have hW:=ou (P:=P) L F a [] L F a us' 0 (fun j=>by simp) (fun j=>by simp) (by simp) hn rfl (by simp[cz]) hcanus h
   have ht:=htidy i o hLi hin
   simp only[mJ,Bool.and_eq_true] at ht
   have hlistedOf:∀j,waitsFor o j=true→listed.getD j false=true∧j<i:=fun j hj=>by
    obtain⟨ed,hed,hb,hon⟩:=waitsFor_spec hj
    subst hon
    have:=Array.all_eq_true_iff_forall_mem.1 ht.2 ed hed
    simp only[hb,Bool.not_true,Bool.false_or,decide_eq_true_eq] at this
    exact⟨hwait ed hed hb,this⟩
   have hob:=hW.1 i o f (Nat.zero_le _) hLi hFi w' hC (fun j hj=>by
    obtain⟨hl,hji⟩:=hlistedOf j hj
    have hjF:j<F.length:=by omega
    have hfj:F[j]? =some F[j]:=by simp[hjF]
    unfold cz
    simp only[List.getD,List.getElem?_map,List.getElem?_range hji,Option.map_some,Option.getD_some,hfj]
    rw[hus j hl]
    exact hst.fact j _ hfj hl)
   have hlook:∀t∈o.looksAt L.toArray,(aJ L a us' i).tmps[t]? =a'.tmps[t]? :=by
    intro t htl
    have hm:=List.all_eq_true.1 ht.1 t htl
    by_cases hmk:∃j,makes L t j=true
    ·obtain⟨j,hmj⟩:=hmk
     have hjL:j<L.length:=by
      by_cases e:j<L.length
      ·exact e
      ·unfold makes at hmj;rw[List.getElem?_eq_none (by omega)] at hmj;cases hmj
     have h5:=List.all_eq_true.1 hm j (List.mem_range.2 hjL)
     simp only[hmj,Bool.not_true,Bool.false_or,Bool.and_eq_true,decide_eq_true_eq] at h5
     obtain⟨hl,hji⟩:=hlistedOf j h5.1
     have hts:t<a.tmps.size:=by
      have hmj2:=hmj
      unfold makes at hmj2
      cases hL:L[j]? with
      |none=>simp[hL] at hmj2
      |some o'=>simp only[hL] at hmj2;exact hsize j o' t hL (by simpa using hmj2)
     rw[gK hmj hts i hji (fun k hk hne=>huniq j t (by omega) hmj k (by omega) hne),hst.made j t hl hmj,hus j hl]
    ·have hno:∀j,makes L t j=false:=fun j=>by
      by_cases e:makes L t j=true
      ·exact absurd ⟨j,e⟩ hmk
      ·simpa using e
     rw[iG i fun j _=>hno j,hst.kept t fun j _=>hno j]
   obtain⟨he1,he2⟩:=rQ (ops:=L.toArray) (o:=o) (fun cs b=>Region.noSelect_spec hsel i o cs b ho) hlook
   rw[he2] at hob
   unfold bU at hob
   rw[he1] at hob
   -- what stands behind it
   have hnext:∀(v:Value) (w'':World),T.r w' w''→f.p w'' v→wpAny P .any L.toArray Q (m+(L.length-F.length)) (listed.setIfInBounds i true) (a'.put o.dst v) w'':=by
    intro v w'' hb hp
    have his:i<listed.size:=by rw[hst.size];exact hiL
    refine ih _ _ _ (fun j=>if j=i then v else us j) ?_ ⟨?_,?_,?_,?_,?_,?_,?_,?_⟩ (T.trans hC hb)
    ·have hit:i<(listed.toList.take F.length).length:=by simp;omega
     have hv:(listed.toList.take F.length)[i]=false:=by
      rw[List.getElem_take]
      simpa[his] using hunF
     rw[Array.toList_setIfInBounds,List.take_set,List.count_set hit,hv,hcount]
     simp
    ·simp[hst.size]
    ·intro j hj
     rw[dR _ _ _ his,if_neg (by omega)]
     exact hst.rest j hj
    ·exact(ku _ _ _).1.trans hst.tmps
    ·exact(ku _ _ _).2.trans hst.defers
    ·intro t hno
     have h0:makes L t i=false:=hno i (by rw[dR _ _ _ his,if_pos rfl])
     have h1:a'.tmps[t]? =a.tmps[t]? :=hst.kept t fun j hj=>hno j (by rw[dR _ _ _ his];split<;>simp_all)
     unfold makes at h0
     simp only[hLi] at h0
     cases hd:o.dst with
     |none=>exact h1
     |some d=>
      have hne:d≠t:=by simpa[hd] using h0
      show(Array.setIfInBounds _ d _)[t]? =_
      rw[Array.getElem?_setIfInBounds_ne hne];exact h1
    ·intro j t hl hm
     rw[dR _ _ _ his] at hl
     by_cases hji:j=i
     ·subst hji
      rw[if_pos rfl]
      unfold makes at hm
      simp only[hLi] at hm
      have hd:o.dst=some t:=by simpa using hm
      rw[nU hd]
      rw[Array.getElem?_setIfInBounds_self_of_lt (by rw[hst.tmps];exact hsize j o t hLi hd)]
     ·rw[if_neg (fun e=>hji e.symm)] at hl
      rw[if_neg hji]
      have h1:=hst.made j t hl hm
      have hjF:j<F.length:=by
       by_cases e:j<F.length
       ·exact e
       ·rw[hst.rest j (by omega)] at hl;cases hl
      have h0:makes L t i=false:=huniq j t hjF hm i hin (Ne.symm hji)
      unfold makes at h0
      simp only[hLi] at h0
      cases hd:o.dst with
      |none=>exact h1
      |some d=>
       have hne:d≠t:=by simpa[hd] using h0
       show(Array.setIfInBounds _ d _)[t]? =_
       rw[Array.getElem?_setIfInBounds_ne hne];exact h1
    ·intro j f' hfj hl
     rw[dR _ _ _ his] at hl
     by_cases hji:j=i
     ·subst hji
      rw[hFi] at hfj
      cases hfj
      rw[if_pos rfl];exact hp
     ·rw[if_neg (fun e=>hji e.symm)] at hl
      rw[if_neg hji]
      exact f'.stays _ _ _ hb (hst.fact j f' hfj hl)
    ·intro j o' k hLj hl hwk
     rw[dR _ _ _ his]
     by_cases hki:i=k
     ·rw[if_pos hki]
     ·rw[if_neg hki]
      rw[dR _ _ _ his] at hl
      by_cases hji:i=j
      ·subst hji
       rw[hLi] at hLj
       cases hLj
       obtain⟨ed,hed,hb2,hon⟩:=waitsFor_spec hwk
       rw[←hon];exact hwait ed hed hb2
      ·rw[if_neg hji] at hl
       exact hst.closed j o' k hLj hl hwk
   unfold wpOp
   simp only[ho]
   by_cases hw:Region.wanted o (yielded L.toArray a'.tmps)=true
   ·simp only[hw,if_true] at hob ⊢
    refine .inl ?_
    unfold Oper.wp
    generalize (execOp a'.eval o).run P w'=r at*
    cases r with
    |ok n w2=>
     cases n<;>simp only[bO] at hob<;>simp only[Oper.upon]
     case value u=>exact hnext u w2 hob.1 hob.2
     case skip=>exact hnext undef w2 hob.1 hob.2
     case enter g args=>
      refine hob.mono fun e w3 ⟨v,he,hb,hp⟩=> ?_
      subst he
      exact hnext v w3 hb hp
    |halt x w2=>simp only[bO] at hob
   ·simp only[hw] at hob ⊢
    exact hnext undef w' (T.refl _) hob
theorem gy{T:sV}{id:Nat}{L:List Oper}{a:Act}{w:World}(F:List (af T))(hm:P.follows .mixedOrders=true)(hB:lJ L F.length a.tmps.size=true)
  (h:dE P L.toArray (fun w'=>T.r w w') (fun a' w'=>wpAny P .any L.toArray Q (L.length-F.length) (fU L.length F.length) a' w') L F a []):
  (Code.region id L.toArray true).wp P Q a w:=by
 refine wp_region_any hm ?_
 have hn:F.length≤L.length:=(jd hB).2.1
 have:=qg hB h F.length (Array.replicate L.length false) a {w with drawn:=w.drawn+1} (fun _=>undef) (by
   rw[Array.toList_replicate,List.take_replicate,List.count_replicate_self];omega) ⟨by simp,fun j _=>by
    by_cases e:j<L.length<;>simp[e],rfl,rfl,fun _ _=>rfl,fun j _ hl=>by
    exfalso
    by_cases e:j<L.length<;>simp[e] at hl,fun j _ _ hl=>by
    exfalso
    by_cases e:j<L.length<;>simp[e] at hl,fun j _ _ _ hl _=>by
    exfalso
    by_cases e:j<L.length<;>simp[e] at hl⟩ (T.below ⟨rfl,rfl,rfl,Nat.le_refl _,fun _ _=>rfl⟩)
 rw[show F.length+(L.length-F.length)=L.toArray.size by simp;omega] at this
 simpa using this
end
section
variable {P:Program} {Q:Exit→Act→World→Prop}
theorem bB{T:sV}{id:Nat}{L:List Oper}{a:Act}{w:World}(F:List (af T))(hm:P.follows .mixedOrders=true)(hB:lJ L F.length a.tmps.size=true)(hlen:F.length=L.length)
  (hnone:Region.ready .any L.toArray (fU L.length L.length)=[])
  (h:∀(ops:Array Oper) (K:Act→World→Prop),ops=L.toArray→(∀a' w',Q .normal a' w'→K a' w')→dE P ops (fun w'=>T.r w w') K L F a []):
  (Code.region id L.toArray true).wp P Q a w:=
 gy F hm hB (h _ _ rfl fun a' w' hQ=>by rw[hlen];exact wpAny_done hnone hQ _)
end
section
variable {P:Program} {Q:Exit→Act→World→Prop}
end
theorem ae{ops:Array Oper}{o:Oper}{a:Act}(hg:o.guard=none):Region.wanted o (yielded ops a.tmps)=true:=by unfold Region.wanted;rw[hg]
theorem aA{L:List Oper}{ops:Array Oper}{o og:Oper}{a:Act}{g:Nat}{b:Bool}{t:Tmp}(hops:ops=L.toArray)(hg:o.guard=some (g,b))(h1:L[g]? =some og)(h2:og.dst=some t)(h3:a.tmps[t]? =some (.bool b)):Region.wanted o (yielded ops a.tmps)=true:=by
 subst hops
 unfold Region.wanted yielded
 simp[hg,h1,h2,h3]
theorem dn{L:List Oper}{ops:Array Oper}{o og:Oper}{a:Act}{g:Nat}{b:Bool}{t:Tmp}(hops:ops=L.toArray)(hg:o.guard=some (g,b))(h1:L[g]? =some og)(h2:og.dst=some t)(h3:a.tmps[t]? =some (.bool (!b))):Region.wanted o (yielded ops a.tmps)=false:=by
 subst hops
 unfold Region.wanted yielded
 simp[hg,h1,h2,h3]
theorem kM{T:sV}{P:Program}{ops:Array Oper}{C:World→Prop}{K:Act→World→Prop}{o:Oper}{l:List Oper}{f:af T}{fs:List (af T)}{a:Act}{known:List (World→Prop)}(hw:Region.wanted o (yielded ops a.tmps)=true)
  (h1:∀w,C w→fF o known w→bU T P o a w f.p)
  (h2:∀u,(∃w,f.p w u)→dE P ops C K l fs (a.put o.dst u) (known++[fun w=>f.p w u])):dE P ops C K (o::l) (f::fs) a known:=
 kw (fun w hC hd=>by rw[if_pos hw];exact h1 w hC hd) h2
theorem aa{T:sV}{P:Program}{ops:Array Oper}{C:World→Prop}{K:Act→World→Prop}{o:Oper}{l:List Oper}{v:Value}{fs:List (af T)}{a:Act}{known:List (World→Prop)}(hw:Region.wanted o (yielded ops a.tmps)=true)
  (h1:∀w,C w→fF o known w→bU T P o a w (af.is (T:=T) v).p) {a':Act} (ha:a.put o.dst v=a') {known':List (World→Prop)} (hk:known++[fun w=>True]=known')
  (h2:dE P ops C K l fs a' known'):dE P ops C K (o::l) (af.is v::fs) a known:=
 kM hw h1 fun u hu=>by
  have:=af.vJ hu
  subst this
  have e:(fun w=>(af.is (T:=T) u).p w u)=fun _:World=>True:=by funext w;exact propext ⟨fun _=>trivial,fun _=>rfl⟩
  rw[e,ha,hk]
  exact h2
theorem aG{T:sV}{P:Program}{ops:Array Oper}{C:World→Prop}{K:Act→World→Prop}{o:Oper}{l:List Oper}{fs:List (af T)}{a:Act}{known:List (World→Prop)}(hw:Region.wanted o (yielded ops a.tmps)=false)
  {a':Act} (ha:a.put o.dst undef=a') {known':List (World→Prop)} (hk:known++[fun w=>True]=known')
  (h2:dE P ops C K l fs a' known'):dE P ops C K (o::l) (af.is undef::fs) a known:=
 kw (fun w hC hd=>by rw[if_neg (by rw[hw];exact Bool.false_ne_true)];exact rfl) fun u hu=>by
  have:=af.vJ hu
  subst this
  have e:(fun w=>(af.is (T:=T) undef).p w undef)=fun _:World=>True:=by funext w;exact propext ⟨fun _=>trivial,fun _=>rfl⟩
  rw[e,ha,hk]
  exact h2
theorem aD{T:sV}{P:Program}{o:Oper}{a:Act}{w:World}{p:World→Value→Prop}(t1:Tmp)(x1:Value)(e1:a.eval (.tmp t1)=x1)
  (h:∀ρ:Operand→Value,(∀v,ρ (.const v)=v)→(∀f,ρ (.func f)=.func (.func f) #[] #[])→ρ (.tmp t1)=x1→bO T P w p ((execOp ρ o).run P w)):bU T P o a w p:=
 h a.eval (fun _=>rfl) (fun _=>rfl) e1
theorem bP{T:sV}{P:Program}{o:Oper}{a:Act}{w:World}{p:World→Value→Prop}(t1:Tmp)(x1:Value)(t2:Tmp)(x2:Value)(e1:a.eval (.tmp t1)=x1)(e2:a.eval (.tmp t2)=x2)
  (h:∀ρ:Operand→Value,(∀v,ρ (.const v)=v)→(∀f,ρ (.func f)=.func (.func f) #[] #[])→ρ (.tmp t1)=x1→ρ (.tmp t2)=x2→bO T P w p ((execOp ρ o).run P w)):bU T P o a w p:=
 h a.eval (fun _=>rfl) (fun _=>rfl) e1 e2
theorem aj{T:sV}{P:Program}{o:Oper}{a:Act}{w:World}{v:Value}(x:Operand)(h:o.op=.move x∨o.op=.assign x)(hv:a.eval x=v):bU T P o a w (af.is (T:=T) v).p:=by
 unfold bU execOp
 rcases h with h|h<;>(rw[h];exact⟨T.refl _,hv⟩)
theorem dZ{T:sV}{P:Program}{o:Oper}{a:Act}{w:World}{v:Value}(c x y:Operand)(b:Bool)(h:o.op=.pick c x y)(hc:a.eval c=.bool b)(hv:(if b then a.eval x else a.eval y)=v):bU T P o a w (af.is (T:=T) v).p:=by
 unfold bU execOp
 rw[h]
 simp only[hc]
 subst hv
 cases b<;>exact⟨T.refl _,rfl⟩
theorem ay{T:sV}{P:Program}{w:World}{v:Value}{r:Result Next}(h:r=.ok (.value v) w):bO T P w (af.is (T:=T) v).p r:=by
 rw[h];exact⟨T.refl _,rfl⟩
theorem bJ{T:sV}{P:Program}{w:World}{f:FuncId}{args:Array Value}{v:Value}{r:Result Next}(h:r=.ok (.enter f args) w)
  (hc:Calls P f args w fun e w'=>e=.returned v∧T.r w w'):bO T P w (af.is (T:=T) v).p r:=by
 rw[h];exact hc.mono fun e w' ⟨he,hw⟩=>⟨v,he,hw,rfl⟩
end Go.Proofs.YtjmifnljckmimaaGreat.Pk.TX
