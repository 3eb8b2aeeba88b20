/-
  Objects in a ground's words: heads, leaves, fields; which block is whose. No program in sight.
-/
import Derived.Test.YtjmifnljckmimaaGreatGroFnEtc
import Derived.Test.YtjmifnljckmimaaGreatBaseEtc
namespace Go.Proofs.YtjmifnljckmimaaGreat.Pk
open Go.RowKit
set_option linter.unusedVariables false
set_option linter.unusedSimpArgs false
structure Ob where
 h:Nat
 np:Nat
 nd:Nat
 lv:List Nat
def Ob.f(o:Ob):Nat:=o.np+o.nd
def Ob.leaves(o:Ob):List Nat:=o.lv.filterMap (fun n=>if n=0 then none else some (n-1))
def Ob.blocks(o:Ob):List Nat:=o.h::o.leaves
theorem Ob.aU{o:Ob}{b:Nat}:b∈o.leaves↔b+1∈o.lv:=by
 unfold Ob.leaves
 rw[List.mem_filterMap]
 constructor
 ·rintro⟨n,hn,he⟩
  by_cases h:n=0
  ·simp[h] at he
  ·simp[h] at he
   have:n=b+1:=by omega
   rw[←this];exact hn
 ·intro h
  exact⟨b+1,h,by simp⟩
def aV(c:Cf)(o:Ob)(i:Nat):Option (Nat × Nat):=
 if o.f≤c.W-8 then some (o.h,8+i) else match o.lv[i/(c.W-1)]? with
  |some (b+1)=>some (b,1+i%(c.W-1))
  |_=>none
def aM(c:Cf)(o:Ob)(i:Nat):Option Nat:=(aV c o i).map (fun p=>adr c p.1 p.2)
def dS(c:Cf)(zs:List Int)(o:Ob)(i:Nat):Int:=match aM c o i with|some a=>nth zs a|none=>0
structure iM (c:Cf) (zs:List Int) (o:Ob):Prop where
 hlt:o.h<c.N
 llt:∀b,b+1∈o.lv→b<c.N
 w1:nth zs (adr c o.h 1)=(o.np:Int)
 w2:nth zs (adr c o.h 2)=(o.nd:Int)
 size:(o.f:Int)≤fieldsI c.W
 lvs:(o.lv.length:Int)=cO c.W o.f
 tok:bW (nth zs (adr c o.h 0))
 kind:uK (nth zs (adr c o.h 0))=if o.f≤c.W-8 then 1 else 2
 own:∀j,(hj:j<o.lv.length)→nth zs (adr c o.h (8+j))=(o.lv[j]:Int)
 leaf:∀b,b+1∈o.lv→nth zs (adr c b 0)=3+256*(o.h:Int)
structure af (c:Cf) (zs:List Int) (pool:List Nat) (os:List Ob):Prop where
 pl:bJ c zs pool
 obs:∀o,o∈os→iM c zs o
 perm:(pool++os.flatMap Ob.blocks).Perm (List.range c.N)
section
variable {c:Cf} {zs zs':List Int} {o:Ob} {pool:List Nat} {os:List Ob}
theorem iM.head(h:iM c zs o):bg (nth zs (adr c o.h 0)):=by
 unfold bg
 rw[h.kind]
 split<;>simp
theorem iM.small(h:iM c zs o)(hs:o.f≤c.W-8)(hm:c.May):o.lv=[]:=by
 have hw:=hm.w
 have:=h.lvs
 rw[jC (by omega)] at this
 exact List.length_eq_zero_iff.1 (by omega)
theorem iM.Im(h:iM c zs o)(hm:c.May):o.lv.length≤c.W-8:=by
 have hw:=hm.w
 have:=h.lvs
 have:=lw (W:=c.W) (n:=o.f) (by omega) (by omega) h.size
 omega
theorem iM.place(h:iM c zs o)(hm:c.May)(hs:¬o.f≤c.W-8){i:Nat}(hi:i<o.f):i/(c.W-1)<o.lv.length:=by
 have hw:=hm.w
 have hl:=h.lvs
 obtain⟨_,_,h3,_⟩:=mh (W:=c.W) (n:=o.f) (by omega) (by omega) (by omega) h.size
 rw[←hl] at h3
 have h4:o.f≤o.lv.length*(c.W-1):=by
  have:((o.lv.length*(c.W-1):Nat):Int)=(o.lv.length:Int)*((c.W:Int)-1):=by rw[Int.natCast_mul];congr 1;omega
  omega
 exact(Nat.div_lt_iff_lt_mul (by omega)).2 (by omega)
theorem iq(hs:o.f≤c.W-8)(i:Nat):aV c o i=some (o.h,8+i):=by unfold aV;rw[if_pos hs]
theorem iQ(hs:¬o.f≤c.W-8){i b:Nat}(hl:o.lv[i/(c.W-1)]? =some (b+1)):aV c o i=some (b,1+i%(c.W-1)):=by unfold aV;rw[if_neg hs,hl]
theorem BJ(hs:¬o.f≤c.W-8){i:Nat}(hl:o.lv[i/(c.W-1)]? =some 0):aV c o i=none:=by unfold aV;rw[if_neg hs,hl]
theorem fw{i:Nat}{p:Nat × Nat}(h:aV c o i=some p):p.1∈o.blocks:=by
 unfold aV at h
 split at h
 ·cases h;unfold Ob.blocks;simp
 ·split at h
  ·rename_i b hb
   cases h
   unfold Ob.blocks
   exact List.mem_cons_of_mem _ (Ob.aU.2 (List.mem_of_getElem? hb))
  ·cases h
theorem fA(hm:c.May){i:Nat}(hi:i<o.f){p:Nat × Nat}(h:aV c o i=some p):1≤p.2∧p.2<c.W∧(p.1=o.h→o.f≤c.W-8→8≤p.2):=by
 have hw:=hm.w
 unfold aV at h
 split at h
 ·rename_i hs
  cases h
  exact⟨by show 1≤8+i;omega,by show 8+i<c.W;omega,fun _ _=>by show 8≤8+i;omega⟩
 ·rename_i hs
  split at h
  ·cases h
   have:=Nat.mod_lt i (show 0<c.W-1 by omega)
   exact⟨by show 1≤1+i%(c.W-1);omega,by show 1+i%(c.W-1)<c.W;omega,fun _ h=>absurd h hs⟩
  ·cases h
theorem af.nodup(h:af c zs pool os):(pool++os.flatMap Ob.blocks).Nodup:=h.perm.nodup_iff.2 List.nodup_range
theorem af.nodupB(h:af c zs pool os):(os.flatMap Ob.blocks).Nodup:=(List.nodup_append.1 h.nodup).2.1
theorem BQ:∀{os:List Ob} {o o':Ob} {b:Nat},(os.flatMap Ob.blocks).Nodup→o∈os→o'∈os→b∈o.blocks→b∈o'.blocks→o=o'
 |x::t,o,o',b,hn,ho,ho',hb,hb'=>by
  rw[List.flatMap_cons,List.nodup_append] at hn
  obtain⟨n1,n2,n3⟩:=hn
  rcases List.mem_cons.1 ho with e1|m1
  ·rcases List.mem_cons.1 ho' with e2|m2
   ·rw[e1,e2]
   ·exact absurd rfl (n3 b (by rw[←e1];exact hb) b (List.mem_flatMap.2 ⟨o',m2,hb'⟩))
  ·rcases List.mem_cons.1 ho' with e2|m2
   ·exact absurd rfl (n3 b (by rw[←e2];exact hb') b (List.mem_flatMap.2 ⟨o,m1,hb⟩))
   ·exact BQ n2 m1 m2 hb hb'
theorem yB:∀{os:List Ob} {o:Ob},(os.flatMap Ob.blocks).Nodup→o∈os→o.blocks.Nodup
 |x::t,o,hn,ho=>by
  rw[List.flatMap_cons,List.nodup_append] at hn
  rcases List.mem_cons.1 ho with rfl|ho
  ·exact hn.1
  ·exact yB hn.2.1 ho
theorem af.own(h:af c zs pool os){o o':Ob}{b:Nat}(ho:o∈os)(ho':o'∈os)(hb:b∈o.blocks)(hb':b∈o'.blocks):o=o':=BQ h.nodupB ho ho' hb hb'
theorem af.ownB(h:af c zs pool os){o:Ob}(ho:o∈os):o.blocks.Nodup:=yB h.nodupB ho
theorem af.ja(h:af c zs pool os){o:Ob}{b:Nat}(ho:o∈os)(hb:b∈o.blocks):b∉pool:=fun hp=>
 (List.nodup_append.1 h.nodup).2.2 b hp b (List.mem_flatMap.2 ⟨o,ho,hb⟩) rfl
theorem af.all(h:af c zs pool os){b:Nat}(hb:b<c.N):b∈pool∨∃o,o∈os∧b∈o.blocks:=by
 have:b∈pool++os.flatMap Ob.blocks:=h.perm.mem_iff.2 (List.mem_range.2 hb)
 rcases List.mem_append.1 this with h1|h1
 ·exact .inl h1
 ·exact .inr (List.mem_flatMap.1 h1)
theorem af.lt(h:af c zs pool os){o:Ob}{b:Nat}(ho:o∈os)(hb:b∈o.blocks):b<c.N:=
 List.mem_range.1 (h.perm.mem_iff.1 (List.mem_append_right _ (List.mem_flatMap.2 ⟨o,ho,hb⟩)))
theorem rR{lv:List Nat}(h:(lv.filterMap (fun n=>if n=0 then none else some (n-1))).Nodup){j k b:Nat}(hj:lv[j]? =some (b+1))(hk:lv[k]? =some (b+1)):j=k:=by
 induction lv generalizing j k with
 |nil=>simp at hj
 |cons x t ih=>
  have hmem:∀{i:Nat},t[i]? =some (b+1)→b∈t.filterMap (fun n=>if n=0 then none else some (n-1)):=fun hi=>List.mem_filterMap.2 ⟨b+1,List.mem_of_getElem? hi,by simp⟩
  rw[List.filterMap_cons] at h
  cases j with
  |zero=>
   cases k with
   |zero=>rfl
   |succ k=>
    simp at hj hk
    subst hj
    simp at h
    exact absurd (hmem hk) (by simpa using h.1)
  |succ j=>
   cases k with
   |zero=>
    simp at hj hk
    subst hk
    simp at h
    exact absurd (hmem hj) (by simpa using h.1)
   |succ k=>
    simp at hj hk
    have h2:(t.filterMap (fun n=>if n=0 then none else some (n-1))).Nodup:=by
     by_cases e:x=0
     ·simp[e] at h;exact h
     ·simp[e] at h;exact h.2
    rw[ih h2 hj hk]
theorem af.Hr(h:af c zs pool os)(hm:c.May){o o':Ob}(ho:o∈os)(ho':o'∈os){i i' a:Nat}(hi:i<o.f)(hi':i'<o'.f)(h1:aM c o i=some a)(h2:aM c o' i'=some a):o=o'∧i=i':=by
 have hw:=hm.w
 unfold aM at h1 h2
 cases hp:aV c o i with
 |none=>rw[hp] at h1;cases h1
 |some p=>
  cases hq:aV c o' i' with
  |none=>rw[hq] at h2;cases h2
  |some q=>
   rw[hp] at h1
   rw[hq] at h2
   have e:adr c p.1 p.2=adr c q.1 q.2:=by simp at h1 h2;rw[h1,h2]
   obtain⟨e1,e2⟩:=ak (fA hm hi hp).2.1 (fA hm hi' hq).2.1 e
   obtain rfl:=h.own ho ho' (fw hp) (by rw[e1];exact fw hq)
   refine⟨rfl,?_⟩
   unfold aV at hp hq
   by_cases hs:o.f≤c.W-8
   ·rw[if_pos hs] at hp hq
    cases hp;cases hq
    simp at e2
    exact e2
   ·rw[if_neg hs] at hp hq
    split at hp
    ·rename_i b hb
     cases hp
     split at hq
     ·rename_i b' hb'
      cases hq
      simp at e1 e2
      subst e1
      have hl:o.leaves.Nodup:=(List.nodup_cons.1 (h.ownB ho)).2
      have e3:=rR hl hb hb'
      have d1:=Nat.div_add_mod i (c.W-1)
      have d2:=Nat.div_add_mod i' (c.W-1)
      rw[e3,e2] at d1
      omega
     ·cases hq
    ·cases hp
theorem iM.congr(h:iM c zs o)(h0:bW (nth zs' (adr c o.h 0))∧uK (nth zs' (adr c o.h 0))=uK (nth zs (adr c o.h 0)))(h1:nth zs' (adr c o.h 1)=nth zs (adr c o.h 1))(h2:nth zs' (adr c o.h 2)=nth zs (adr c o.h 2))
  (h3:∀j,j<o.lv.length→nth zs' (adr c o.h (8+j))=nth zs (adr c o.h (8+j))) (h4:∀b,b+1∈o.lv→nth zs' (adr c b 0)=nth zs (adr c b 0)):iM c zs' o:=
 ⟨h.hlt,h.llt,by rw[h1];exact h.w1,by rw[h2];exact h.w2,h.size,h.lvs,h0.1,by rw[h0.2];exact h.kind,fun j hj=>by rw[h3 j hj];exact h.own j hj,fun b hb=>by rw[h4 b hb];exact h.leaf b hb⟩
theorem af.Di(h:af c zs pool os)(hm:c.May)(hz:zs.length=c.size)(ho:o∈os){i a:Nat}(hi:i<o.f)(ha:aM c o i=some a)(x:Int):
  af c (zs.set a x) pool os∧∀o' i',o'∈os→i'<o'.f→dS c (zs.set a x) o' i'=if o'.h=o.h∧i'=i then x else dS c zs o' i':=by
 have hw:=hm.w
 have hA:=h.obs o ho
 cases hp:aV c o i with
 |none=>unfold aM at ha;rw[hp] at ha;cases ha
 |some p=>
  have ea:a=adr c p.1 p.2:=by unfold aM at ha;rw[hp] at ha;simp at ha;exact ha.symm
  obtain⟨q1,q2,q3⟩:=fA hm hi hp
  have hpm:=fw hp
  have hpN:=h.lt ho hpm
  have hlt:a<zs.length:=by rw[hz,ea];exact dX hpN q2
  have hne:∀b v,v<c.W→(b≠p.1∨v≠p.2)→nth (zs.set a x) (adr c b v)=nth zs (adr c b v):=fun b v hv hn=>by
   rw[ae]
   intro e
   rw[ea] at e
   have:=ak q2 hv e
   rcases hn with hn|hn
   ·exact hn this.1.symm
   ·exact hn this.2.symm
  have hO:aW c p.1 zs (zs.set a x):=by rw[ea];exact aW.set q2 x
  refine⟨⟨h.pl.only hm (h.ja ho hpm) hO,fun o' ho'=> ?_,h.perm⟩,fun o' i' ho' hi'=> ?_⟩
  ·have hA':=h.obs o' ho'
   have hnh:∀v,v<8∨(¬o'.f≤c.W-8)→(o'.h≠p.1∨v≠p.2):=fun v hv=>by
    by_cases e:o'.h=p.1
    ·have:o=o':=h.own ho ho' hpm (by rw[←e];unfold Ob.blocks;simp)
     subst this
     by_cases hs:o.f≤c.W-8
     ·have:=q3 e.symm hs
      rcases hv with hv|hv
      ·exact .inr (by omega)
      ·exact absurd hs hv
     ·exfalso
      unfold aV at hp
      rw[if_neg hs] at hp
      split at hp
      ·rename_i b hb
       cases hp
       exact(List.nodup_cons.1 (h.ownB ho)).1 (by rw[e];exact Ob.aU.2 (List.mem_of_getElem? hb))
      ·cases hp
    ·exact .inl e
   refine hA'.congr ?_ ?_ ?_ (fun j hj=> ?_) (fun b hb=> ?_)
   ·rw[hne _ 0 (by omega) (hnh 0 (by omega))];exact⟨hA'.tok,rfl⟩
   ·exact hne _ 1 (by omega) (hnh 1 (by omega))
   ·exact hne _ 2 (by omega) (hnh 2 (by omega))
   ·have hl:=hA'.Im hm
    have hs:¬o'.f≤c.W-8:=fun hs=>by rw[hA'.small hs hm] at hj;simp at hj
    exact hne _ (8+j) (by omega) (hnh (8+j) (.inr hs))
   ·exact hne _ 0 (by omega) (.inr (by omega))
  ·unfold dS
   cases hf:aM c o' i' with
   |none=>
    by_cases e:o'.h=o.h∧i'=i
    ·have:o'=o:=h.own ho' ho (b:=o'.h) (by unfold Ob.blocks;simp) (by rw[e.1];unfold Ob.blocks;simp)
     rw[this,e.2,ha] at hf
     cases hf
    ·rw[if_neg e]
   |some a'=>
    by_cases e:o'.h=o.h∧i'=i
    ·have e2:o'=o:=h.own ho' ho (b:=o'.h) (by unfold Ob.blocks;simp) (by rw[e.1];unfold Ob.blocks;simp)
     rw[e2,e.2,ha] at hf
     cases hf
     rw[if_pos e]
     exact aA hlt x
    ·rw[if_neg e]
     refine ae (fun e3=>e ?_) x
     have:=h.Hr hm ho' ho hi' hi hf (by rw[ha,e3])
     exact⟨by rw[this.1],this.2⟩
end
end Go.Proofs.YtjmifnljckmimaaGreat.Pk
