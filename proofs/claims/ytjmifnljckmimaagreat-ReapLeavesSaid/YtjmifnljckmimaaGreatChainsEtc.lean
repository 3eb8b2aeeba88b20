/-
  Texts laid together: Chains, LawKit, Obj, Wld, CountMath, HeapRing, RepW, Ring, Pool, ObjLaw, ObjApartF, MakeMath, Chain, ChainFn.
-/
import Derived.Test.YtjmifnljckmimaaGreatRefChainEtc
import Derived.Test.YtjmifnljckmimaaGreatGroFnEtc
import Derived.BigQuiet
import Derived.Test.YtjmifnljckmimaaGreatBaseEtc
namespace Go.Proofs.YtjmifnljckmimaaGreat.Pk
open Lib (hid)
open Go.RowKit
set_option linter.unusedVariables false
set_option linter.unusedSimpArgs false
def ints(l:List Nat):List Int:=l.map (fun n:Nat=>(n:Int))
theorem ints_length(l:List Nat):(ints l).length=l.length:=by simp[ints]
theorem nK{l:List Nat}{i:Nat}(h:i<l.length):nth (ints l) i=(l[i]:Int):=by unfold nth ints;simp[List.getD,h]
def uA(l:List Nat)(w:World)(e:Ending)(w':World):Prop:=
 ∃a cap,e=.returned (.slice a l.length cap)∧Row w' .i64 a (ints l)∧(∀b off,a=some ⟨b,off,none⟩→w.heap.size≤b)∧Below w.heap.size w w'
def cfR(n:Nat):Cf:=⟨n,16,1,1⟩
theorem MM{n:Nat}(h0:1≤n)(h1:n≤1000):(cfR n).May:=by constructor<;>simp[cfR]<;>omega
def Bv(ks:List Int):Prop:=∀j,0≤nth ks j∧nth ks j<256
theorem nD.QS{w w':World}{l:List Nat}{zs:List Int}{e:Ending}(h:nD w zs e w')(hz:zs=Pk.ints l):uA l w e w':=by
 subst hz
 obtain⟨a,cap,h1,h2,h3,h4⟩:=h
 rw[ints_length] at h1
 exact⟨a,cap,h1,h2,h3,h4⟩
theorem rHas(a:Option Addr)(cap:Nat)(l:List Nat)(b:Int)(w:World)(hr:Row w .i64 a (ints l))(hl:l.length≤9000):
  Calls Tryz.prog 169 #[.slice a l.length cap,.int .i64 b] w fun e w'=>e=.returned (.bool (hasB (ints l) b))∧w=w':=by
 have:=Jb a cap (ints l) b w hr (by rw[ints_length];unfold maxLen;omega)
 rw[ints_length] at this
 exact this
theorem rBehind(a:Option Addr)(cap:Nat)(l:List Nat)(b:Nat)(w:World)(hr:Row w .i64 a (ints l))(hl:l.length≤9000):
  Calls Tryz.prog 116 #[.slice a l.length cap,.int .i64 (b:Int)] w (uA (l++[b]) w):=by
 have:=Ar a cap (ints l) (b:Int) w hr (by rw[ints_length];omega)
 rw[ints_length] at this
 exact this.mono (fun e w' h=>h.QS (by simp[ints]))
theorem Bv.of{ks:List Int}(h:∀x,x∈ks→0≤x∧x<256):Bv ks:=by
 intro j
 by_cases hj:j<ks.length
 ·unfold nth;simp[List.getD,hj];exact h _ (List.getElem_mem hj)
 ·rw[cO (by omega)];omega
theorem QP:(Tryz.prog.info? 4).map (fun i=>(i.zero,i.size,i.bytes))=some (some (.bool false),1,1):=by kernel_rfl
def dJ(os:List Ob)(r:Int):Option Ob:=os.find? (fun o=>decide ((o.h:Int)+1=r))
theorem jK{os:List Ob}{r:Int}{o:Ob}(h:dJ os r=some o):o∈os∧(o.h:Int)+1=r:=
 ⟨List.mem_of_find?_eq_some h,by have:=List.find?_some h;simpa using this⟩
theorem yS{os:List Ob}{r:Int}(h:dJ os r=none):∀o,o∈os→(o.h:Int)+1≠r:=by
 intro o ho e
 have:=(List.find?_eq_none.1 h) o ho
 simp at this
 exact this e
theorem ah.dJ{c:Cf}{zs:List Int}{pool:List Nat}{os:List Ob}(h:ah c zs pool os){o:Ob}(ho:o∈os):dJ os ((o.h:Int)+1)=some o:=by
 cases hc:Pk.dJ os ((o.h:Int)+1) with
 |none=>exact absurd rfl (yS hc o ho)
 |some o'=>
  obtain⟨h1,h2⟩:=jK hc
  have:o'.h=o.h:=by omega
  rw[h.own h1 ho (b:=o'.h) (by unfold Ob.blocks;simp) (by rw[this];unfold Ob.blocks;simp)]
def In64(r:Int):Prop:= -9223372036854775808≤r∧r≤9223372036854775807
instance (r:Int):Decidable (In64 r):=by unfold In64;infer_instance
theorem QZ{c:Cf}(hm:c.May){h:Nat}(hh:h<c.N):In64 ((h:Int)+1):=by
 have:=hm.n
 unfold In64;omega
theorem ah.vH{c:Cf}{zs:List Int}{pool:List Nat}{os:List Ob}(h:ah c zs pool os)(hm:c.May){o:Ob}(ho:o∈os):In64 ((o.h:Int)+1):=
 QZ hm (h.lt ho (b:=o.h) (by unfold Ob.blocks;simp))
def qQ(c:Cf)(os:List Ob)(r i:Int):Int:=match dJ os r with|none=>8|some o=>if jG i o.np&&(aS c o i.toNat).isSome then 0 else 7
def qR(c:Cf)(zs:List Int)(os:List Ob)(r i:Int):Int:=match dJ os r with|none=>0|some o=>if jG i o.np then fK c zs o i.toNat else 0
def blkN(os:List Ob)(r:Int):Int:=match dJ os r with|none=>0|some o=>1+(o.lv.length:Int)
def jl(c:Cf)(zs:List Int)(o:Ob):List Int:=(List.range o.np).map (fun i=>fK c zs o i)
def fe(c:Cf)(zs:List Int)(o:Ob):List Int:=(List.range o.nd).map (fun i=>fK c zs o (o.np+i))
theorem fo(c:Cf)(zs:List Int)(o:Ob):(jl c zs o).length=o.np:=by simp[jl]
theorem jy(c:Cf)(zs:List Int)(o:Ob):(fe c zs o).length=o.nd:=by simp[fe]
def OU(c:Cf)(zs:List Int)(o:Ob)(w:World)(e:Ending)(w':World):Prop:=
 ∃a1 c1 a2 c2,e=.returned (.tuple #[.agg #[.slice a1 o.np c1,.slice a2 o.nd c2],.bool true])∧iA w' .i64 a1 (jl c zs o)∧iA w' .u32 a2 (fe c zs o)∧(∀b off,a1=some ⟨b,off,none⟩→w.heap.size≤b)∧(∀b off,a2=some ⟨b,off,none⟩→w.heap.size≤b)∧
  (∀b off b' off',a1=some ⟨b,off,none⟩→a2=some ⟨b',off',none⟩→b≠b')∧Below w.heap.size w w'∧(∀b off,a1=some ⟨b,off,none⟩→b<w'.heap.size)∧∀b off,a2=some ⟨b,off,none⟩→b<w'.heap.size
def fZ(h np nd:Nat)(ls:List Nat):Ob:=⟨h,np,nd,ls.map (· +1)⟩
structure zA (c:Cf) (zs zs':List Int) (pool:List Nat) (os:List Ob) (o:Ob):Prop where
 heap:ah c zs' pool (os++[o])
 tag:nth zs' (adr c o.h 0)=if o.f≤c.W-8 then 1 else 2
 own:∀v,3≤v→v<8→nth zs' (adr c o.h v)=0
 tF:∀i,i<o.f→fK c zs' o i=0
 out:∀i,¬i<3→(∀b,b∈o.blocks→¬iV c b i)→nth zs' i=nth zs i
def mF(o:Ob)(j:Nat):Ob:={o with lv:=o.lv.set j 0}
def sI(os:List Ob)(o:Ob)(j:Nat):List Ob:=os.map (fun x=>if x.h=o.h then mF x j else x)
structure ObjFns:Prop where
 make_size:∀(c:Cf) (zs:List Int) (p d:Int),Wz c zs→dM c.W p d≠0→∃B,gY c 68 [.int .i64 p,.int .i64 d] zs B zs (.tuple #[.int .i64 0,.int .i64 (dM c.W p d)])
 make_full:∀(c:Cf) (zs:List Int) (pool:List Nat) (os:List Ob) (p d:Int),Wz c zs→ah c zs pool os→dM c.W p d=0→(pool.length:Int)<bL c.W p d→∃B,gY c 68 [.int .i64 p,.int .i64 d] zs B zs (.tuple #[.int .i64 0,.int .i64 4])
 make_yes:∀(c:Cf) (zs:List Int) (h:Nat) (ls pool:List Nat) (os:List Ob) (p d:Nat),Wz c zs→ah c zs (h::ls++pool) os→dM c.W p d=0→(1+ls.length:Int)=bL c.W p d→
  ∃B zs',gY c 68 [.int .i64 (p:Int),.int .i64 (d:Int)] zs B zs' (.tuple #[.int .i64 ((h:Int)+1),.int .i64 0])∧zA c zs zs' pool os (fZ h p d ls)
 is_:∀(c:Cf) (zs:List Int) (pool:List Nat) (os:List Ob) (r:Int),Wz c zs→ah c zs pool os→In64 r→gY c 49 [.int .i64 r] zs 12 zs (.bool (dJ os r).isSome)
 iJ:∀(c:Cf) (zs:List Int) (pool:List Nat) (os:List Ob) (r:Int) (o:Ob),Wz c zs→ah c zs pool os→dJ os r=some o→gY c 110 [.int .i64 r] zs 12 zs (.tuple #[.int .i64 (o.np:Int),.int .i64 (o.nd:Int),.int .i64 0])
 oM:∀(c:Cf) (zs:List Int) (pool:List Nat) (os:List Ob) (r:Int),Wz c zs→ah c zs pool os→In64 r→dJ os r=none→gY c 110 [.int .i64 r] zs 12 zs (.tuple #[.int .i64 0,.int .i64 0,.int .i64 8])
 ptr:∀(c:Cf) (zs:List Int) (pool:List Nat) (os:List Ob) (r i:Int),Wz c zs→ah c zs pool os→In64 r→gY c 70 [.int .i64 r,.int .i64 i] zs 12 zs (.tuple #[.int .i64 (qR c zs os r i),.int .i64 (qQ c os r i)])
 setptr_yes:∀(c:Cf) (zs:List Int) (pool:List Nat) (os:List Ob) (o:Ob) (i a:Nat) (x:Int),Wz c zs→ah c zs pool os→o∈os→i<o.np→aS c o i=some a→0≤x→x≤(c.N:Int)→gY c 71 [.int .i64 ((o.h:Int)+1),.int .i64 (i:Int),.int .i64 x] zs 12 (zs.set a x) (.int .i64 0)
 blocks:∀(c:Cf) (zs:List Int) (pool:List Nat) (os:List Ob) (r:Int),Wz c zs→ah c zs pool os→In64 r→gY c 26 [.int .i64 r] zs 12 zs (.int .i64 (blkN os r))
 see_yes:∀(c:Cf) (zs:List Int) (pool:List Nat) (os:List Ob) (o:Ob),Wz c zs→ah c zs pool os→o∈os→Looks c 23 [.int .i64 ((o.h:Int)+1)] zs (OU c zs o)
 see_no:∀(c:Cf) (zs:List Int) (pool:List Nat) (os:List Ob) (r:Int),Wz c zs→ah c zs pool os→In64 r→dJ os r=none→Looks c 23 [.int .i64 r] zs (fun w e w'=>e=.returned (.tuple #[.agg #[.slice none 0 0,.slice none 0 0],.bool false])∧Below w.heap.size w w')
structure Mrk where
 refs:Int
 color:Int
 count:Int
 shade:Int
 shadow:Int
 dead:Bool
 left:Int
 leaves:Int
def Mrk.new:Mrk:=⟨0,0,0,0,0,false,0,0⟩
structure Th where
 h:Nat
 lv:List Int
 pt:List Int
 dt:List Int
 ended : Bool
 mr:Mrk
structure Wd where
 n:Nat
 w:Nat
 clean:List Nat
 ts:List Th
 parity:Int
 phase:Int
 cursor:Int
 field:Int
 scan:Int
 scanF:Int
 suspect:Int
 units:Int
 epochs:Int
 ring:List Nat
 grave:List Nat
 pending:Int
def Wd.new(n w:Nat):Wd:=⟨n,w,List.range n,[],0,0,0,0,0,0,0,0,0,[],[],0⟩
def Th.at(t:Th)(r:Int):Bool:= !t.ended&&decide ((t.h:Int)+1=r)
def vK(r:Int):List Th→Option Nat
 |[]=>none
 |t::l=>if t.at r then some 0 else(vK r l).map (· +1)
def Wd.ix(D:Wd)(r:Int):Option Nat:=vK r D.ts
def aP(r:Int):List Th→Option Th
 |[]=>none
 |t::l=>if t.at r then some t else aP r l
def Wd.find(D:Wd)(r:Int):Option Th:=aP r D.ts
def bz(r:Int)(f:Th→Th):List Th→List Th
 |[]=>[]
 |t::l=>if t.at r then f t::l else t::bz r f l
def Wd.upd(D:Wd)(r:Int)(f:Th→Th):Wd:={D with ts:=bz r f D.ts}
def Wd.mark(D:Wd)(r:Int)(f:Mrk→Mrk):Wd:=D.upd r (fun t=>{t with mr:=f t.mr})
theorem Ct{r:Int}:∀{l:List Th},vK r l=none↔∀t,t∈l→t.at r=false
 |[]=>by simp[vK]
 |t::l=>by
  unfold vK
  cases h:t.at r with
  |true=>simp[h]
  |false=>simp[h,Ct (l:=l)]
theorem qB{r:Int}:∀{l:List Th} {i:Nat},vK r l=some i→∃t,l[i]? =some t∧t.at r=true∧∀(j:Nat) (u:Th),j<i→l[j]? =some u→u.at r=false
 |[],i,h=>by simp[vK] at h
 |t::l,i,h=>by
  unfold vK at h
  cases ht:t.at r with
  |true=>
   simp[ht] at h
   subst h
   exact⟨t,rfl,ht,fun j u hj=>absurd hj (by omega)⟩
  |false=>
   simp[ht] at h
   obtain⟨k,hk,rfl⟩:=h
   obtain⟨u,h1,h2,h3⟩:=qB hk
   refine⟨u,by simpa using h1,h2,fun j v hj hv=> ?_⟩
   cases j with
   |zero=>simp at hv;subst hv;exact ht
   |succ j=>exact h3 j v (by omega) (by simpa using hv)
theorem KQ{r:Int}:∀{l:List Th} {i:Nat} {t:Th},l[i]? =some t→t.at r=true→(∀(j:Nat) (u:Th),j<i→l[j]? =some u→u.at r=false)→vK r l=some i
 |[],i,t,h,_,_=>by simp at h
 |u::l,0,t,h,ht,_=>by simp at h;subst h;unfold vK;rw[if_pos ht]
 |u::l,i+1,t,h,ht,hn=>by
  unfold vK
  rw[if_neg (by rw[hn 0 u (by omega) rfl];simp),KQ (l:=l) (i:=i) (by simpa using h) ht (fun j v hj hv=>hn (j+1) v (by omega) (by simpa using hv))]
  rfl
theorem zI{r:Int}:∀{l:List Th},aP r l=(vK r l).bind (fun i=>l[i]?)
 |[]=>rfl
 |t::l=>by
  unfold aP vK
  cases h:t.at r with
  |true=>simp
  |false=>
   simp[zI (l:=l)]
   cases vK r l<;>simp
theorem Bp{r:Int}{f:Th→Th}:∀{l:List Th} {i:Nat} {t:Th},vK r l=some i→l[i]? =some t→bz r f l=l.set i (f t)
 |[],i,t,h,_=>by simp[vK] at h
 |u::l,i,t,h,ht=>by
  unfold vK at h
  unfold bz
  cases hu:u.at r with
  |true=>
   simp[hu] at h
   subst h
   simp at ht
   subst ht
   simp
  |false=>
   simp[hu] at h
   obtain⟨k,hk,rfl⟩:=h
   simp
   exact Bp hk (by simpa using ht)
theorem Es{r:Int}{f:Th→Th}:∀{l:List Th},vK r l=none→bz r f l=l
 |[],_=>rfl
 |u::l,h=>by
  unfold vK at h
  unfold bz
  cases hu:u.at r with
  |true=>simp[hu] at h
  |false=>
   simp[hu] at h
   simp
   exact Es h
theorem jI{r:Int}{l:List Th}{t:Th}(h:aP r l=some t):∃i,vK r l=some i∧l[i]? =some t:=by
 rw[zI] at h
 cases hi:vK r l with
 |none=>rw[hi] at h;cases h
 |some i=>rw[hi] at h;exact⟨i,rfl,h⟩
theorem yG{r:Int}{l:List Th}(h:aP r l=none):vK r l=none:=by
 rw[zI] at h
 cases hi:vK r l with
 |none=>rfl
 |some i=>
  rw[hi] at h
  obtain⟨t,ht,_⟩:=qB hi
  simp[ht] at h
theorem find_at{r:Int}{l:List Th}{t:Th}(h:aP r l=some t):t∈l∧t.ended=false∧(t.h:Int)+1=r:=by
 obtain⟨i,hi,ht⟩:=jI h
 obtain⟨u,hu,ha,_⟩:=qB hi
 rw[ht] at hu
 cases hu
 unfold Th.at at ha
 simp at ha
 exact⟨List.mem_of_getElem? ht,ha.1,ha.2⟩
theorem bG{D:Wd}{r:Int}(f:Mrk→Mrk)(h:D.find r=none):D.mark r f=D:=by
 unfold Wd.mark Wd.upd
 rw[Es (yG h)]
section
variable (D:Wd) (r:Int)
def Wd.cnt:Int:=match D.find r with|none=>0|some t=>t.mr.refs
def Wd.dead:Bool:=match D.find r with|none=>false|some t=>t.mr.dead
def Wd.black:Bool:=match D.find r with|none=>false|some t=>decide (t.mr.color=D.parity)
def Wd.dP:Int:=match D.find r with|none=>0|some t=>if t.mr.shade=D.parity then t.mr.shadow else 0
def Wd.counted(i:Int):Bool:=match D.find r with|none=>false|some t=>decide (0≤i)&&(decide (t.mr.count=D.parity)||(decide (D.phase=1)&&decide (D.cursor=r-1)&&decide (i<D.field)))
def Wd.begin(ph:Int):Wd:={D with phase:=ph,cursor:=0,field:=0,scan:=0,scanF:=0}
def phB(ph:Int):Bool:=decide (0≤ph∧ph≤3)
def Wd.nH(ph:Int):Wd:=if phB ph then D.begin ph else D
def Lc(c f:Int):Bool:=decide ((0≤c∧c≤4294967295)∧0≤f∧f≤4294967295)
def Wd.move(c f:Int):Wd:={D with cursor:=c,field:=f}
def Wd.yN(c f:Int):Wd:=if Lc c f then D.move c f else D
def Wd.turn:Wd:={D with parity:=1-D.parity}
def Wd.dye:Wd:=D.mark r (fun m=>{m with color:=D.parity,count:=D.parity,shade:=D.parity,shadow:=0})
def Wd.paint:Wd:=D.mark r (fun m=>{m with color:=D.parity})
def Wd.kill:Wd:=D.mark r (fun m=>{m with dead:=true})
def Wd.done:Wd:=D.mark r (fun m=>{m with count:=D.parity})
def Wd.toucht:Bool:=match D.find r with|none=>false|some t=> !decide (D.phase=0)&& !t.mr.dead&& !decide (t.mr.color=D.parity)
def Wd.touch:Wd:=if D.toucht r then {D.paint r with ring:=if hasB (ints D.ring) (r-1) then D.ring else D.ring++[(r-1).toNat]} else D
def Wd.aW:Wd:=D.mark r (fun m=>{m with shade:=D.parity,shadow:=D.dP r+1})
def Wd.lighter:Bool:=(decide (D.phase=1)||decide (D.phase=2))&& !D.black r&& !decide (D.dP r=0)
def Wd.aC:Wd:=if D.lighter r then D.mark r (fun m=>{m with shadow:=m.shadow-1}) else D
def Wd.up:Wd:=D.mark r (fun m=>{m with refs:=m.refs+1})
def Wd.down:Wd:=D.mark r (fun m=>{m with refs:=m.refs-1})
end
section
variable {c:Cf} {zs:List Int} {o o':Ob} {pool:List Nat} {os:List Ob}
theorem Ob.fV(o:Ob):o.h∈o.blocks:=by unfold Ob.blocks;simp
theorem ah.Cc(h:ah c zs pool os)(hm:c.May)(ho:o∈os)(ho':o'∈os){i a v:Nat}(hi:i<o'.f)(ha:aS c o' i=some a)(hv:v<8):a≠adr c o.h v:=by
 have hw:=hm.w
 unfold aS at ha
 cases hp:bi c o' i with
 |none=>rw[hp] at ha;cases ha
 |some q=>
  rw[hp] at ha
  simp at ha
  obtain⟨q1,q2,q3⟩:=fA hm hi hp
  intro e
  rw[←ha] at e
  obtain⟨e1,e2⟩:=ax q2 (by omega) e
  have hmem:=fw hp
  rw[e1] at hmem
  obtain rfl:=h.own ho ho' o.fV hmem
  by_cases hs:o.f≤c.W-8
  ·have:=q3 e1 hs
   omega
  ·unfold bi at hp
   rw[if_neg hs] at hp
   split at hp
   ·rename_i b hb
    cases hp
    simp at e1
    exact(List.nodup_cons.1 (h.ownB ho)).1 (by rw[←e1];exact Ob.bA.2 (List.mem_of_getElem? hb))
   ·cases hp
end
structure JF:Prop where
 up_yes:∀(c:Cf) (zs:List Int) (pool:List Nat) (os:List Ob) (o:Ob),Wz c zs→ah c zs pool os→o∈os→nth zs (adr c o.h 3)<4294967295→gY c 72 [.int .i64 ((o.h:Int)+1)] zs 8 (zs.set (adr c o.h 3) (nth zs (adr c o.h 3)+1)) (.tuple #[.int .i64 (nth zs (adr c o.h 3)+1),.bool true])
 down_zero:∀(c:Cf) (zs:List Int) (pool:List Nat) (os:List Ob) (o:Ob),Wz c zs→ah c zs pool os→o∈os→nth zs (adr c o.h 3)=0→gY c 111 [.int .i64 ((o.h:Int)+1)] zs 8 zs (.tuple #[.int .i64 0,.bool false])
 down_no:∀(c:Cf) (zs:List Int) (pool:List Nat) (os:List Ob) (r:Int),Wz c zs→ah c zs pool os→In64 r→dJ os r=none→gY c 111 [.int .i64 r] zs 8 zs (.tuple #[.int .i64 0,.bool false])
structure oz (c:Cf) (zs zs':List Int) (os:List Ob):Prop where
 len:zs'.length=zs.length
 out:∀i,(i<3∨24≤i)→(∀o,o∈os→∀v,v<8→v≠1→v≠2→i≠adr c o.h v)→nth zs' i=nth zs i
 tag:∀o,o∈os→dB (nth zs' (adr c o.h 0))∧uK (nth zs' (adr c o.h 0))=uK (nth zs (adr c o.h 0))
theorem aI(c:Cf)(b v:Nat):24≤adr c b v:=by unfold adr;omega
section
variable {c:Cf} {zs zs':List Int} {o:Ob} {pool l:List Nat} {os:List Ob}
theorem ah.heads(h:ah c zs pool os)(hm:c.May)(k:oz c zs zs' os):ah c zs' pool os∧∀o' i,o'∈os→i<o'.f→fK c zs' o' i=fK c zs o' i:=by
 have hw:=hm.w
 have hb:∀b u,u<c.W→(∀o,o∈os→b≠o.h)→nth zs' (adr c b u)=nth zs (adr c b u):=fun b u hu hn=>k.out _ (.inr (aI c b u)) (fun o ho v hv _ _ e=>hn o ho (ax hu (by omega) e).1)
 have hp:∀b,b∈pool→∀o,o∈os→b≠o.h:=fun b hb o ho e=>h.kH ho o.fV (e▸hb)
 have hl:∀o b,o∈os→b+1∈o.lv→∀o',o'∈os→b≠o'.h:=fun o b ho hb o' ho' e=>by
  have hb':b∈o.blocks:=by unfold Ob.blocks;exact List.mem_cons_of_mem _ (Ob.bA.2 hb)
  obtain rfl:=h.own ho ho' hb' (by rw[e];exact o'.fV)
  exact(List.nodup_cons.1 (h.ownB ho)).1 (by rw[←e];exact Ob.bA.2 hb)
 have hh:∀o,o∈os→∀u,u<c.W→(u=1∨u=2∨8≤u)→nth zs' (adr c o.h u)=nth zs (adr c o.h u):=fun o ho u hu h3=>k.out _ (.inr (aI c _ u)) (fun o' ho' v hv h1 h2 e=>by
  have:=(ax hu (by omega) e).2
  omega)
 have hreg:∀r,r<3→nth zs' r=nth zs r:=fun r hr=>k.out r (.inl hr) (fun o ho v _ _ _ e=>by have:=aI c o.h v;omega)
 refine⟨⟨⟨h.pl.ch.congr (hreg _ (by omega)) (hreg _ (by omega)) (hreg _ (by omega)) (fun b hb'=>by rw[gD];exact hb b 5 (by omega) (hp b hb')),fun b hb'=>by rw[hb b 0 (by omega) (hp b hb')];exact h.pl.fr b hb'⟩,fun o ho=> ?_,h.perm⟩,fun o i ho hi=> ?_⟩
 ·exact(h.obs o ho).congr (k.tag o ho) (hh o ho 1 (by omega) (by omega)) (hh o ho 2 (by omega) (by omega)) (fun j hj=>hh o ho (8+j) (by have:=(h.obs o ho).KW hm;omega) (by omega)) (fun b hb'=>hb b 0 (by omega) (hl o b ho hb'))
 ·unfold fK
  cases hf:aS c o i with
  |none=>rfl
  |some a=>
   have ha:24≤a:=by
    unfold aS at hf
    cases hq:bi c o i with
    |none=>rw[hq] at hf;cases hf
    |some q=>rw[hq] at hf;simp at hf;rw[←hf];exact aI c _ _
   exact k.out a (.inr ha) (fun o' ho' v hv _ _=>h.Cc hm ho' ho hi hf hv)
theorem ah.kinds(h:ah c zs pool os){b:Nat}(hb:b<c.N):nth zs (adr c b 0)=0∨(∃o,o∈os∧o.h=b)∨∃x:Nat,x<c.N∧nth zs (adr c b 0)=3+256*(x:Int):=by
 rcases h.all hb with hp|⟨o,ho,hb'⟩
 ·exact .inl (h.pl.fr b hp)
 ·unfold Ob.blocks at hb'
  rcases List.mem_cons.1 hb' with e|hl
  ·exact .inr (.inl ⟨o,ho,e.symm⟩)
  ·exact .inr (.inr ⟨o.h,(h.obs o ho).hlt,(h.obs o ho).leaf b (Ob.bA.1 hl)⟩)
theorem nN{x:Nat}(hx:x<1048576):dB (3+256*(x:Int))∧uG (3+256*(x:Int))=0∧uK (3+256*(x:Int))=3:=by
 unfold dB bY uK uC uN uS uD uG uO
 omega
theorem iQ:dB 0∧uG 0=0∧uK 0=0:=by unfold dB bY uK uC uN uS uD uG uO;omega
theorem ah.nY(h:ah c zs pool os)(hm:c.May)(hr:RingAt c zs l){b:Nat}(hb:b∈l):∃o,o∈os∧o.h=b:=by
 have hn:=hm.n
 rcases h.kinds (hr.lt b hb) with h0|h1|⟨x,hx,h2⟩
 ·have:=hr.hd b hb
  rw[h0] at this
  unfold bF at this
  rw[iQ.2.2] at this
  omega
 ·exact h1
 ·have:=hr.hd b hb
  rw[h2] at this
  unfold bF at this
  rw[(nN (x:=x) (by omega)).2.2] at this
  omega
theorem RingAt.congr(h:RingAt c zs l)(hr:∀r,r=7∨r=8∨r=9→nth zs' r=nth zs r)(ht:∀b,b<c.N→nth zs' (adr c b 0)=nth zs (adr c b 0))(hs:∀b,b∈l→nth zs' (adr c b 6)=nth zs (adr c b 6)∧nth zs' (adr c b 7)=nth zs (adr c b 7)):RingAt c zs' l:=
 ⟨by rw[hr 7 (by omega)];exact h.r7,by rw[hr 8 (by omega)];exact h.r8,by rw[hr 9 (by omega)];exact h.r9,h.lt,h.nd,h.seg.congr hs,fun b hb=>by rw[ht b hb];exact h.tok b hb,fun b hb=>by rw[ht b (h.lt b hb)];exact h.hd b hb,fun b hb=>by rw[ht b hb];exact h.mrk b hb⟩
theorem RingAt.nZ(h:RingAt c zs l)(hm:c.May){b v:Nat}(h0:v≠0)(h6:v≠6)(h7:v≠7)(hv:v<8)(x:Int):RingAt c (zs.set (adr c b v) x) l:=by
 have hw:=hm.w
 have hne:∀a u,u<8→u≠v→nth (zs.set (adr c b v) x) (adr c a u)=nth zs (adr c a u):=fun a u hu hn=>ai (fun e=>hn (ax (by omega) (by omega) e).2.symm) x
 exact h.congr (fun r hr=>ai (fun e=>by have:=aI c b v;omega) x) (fun a _=>hne a 0 (by omega) (Ne.symm h0)) (fun a _=>⟨hne a 6 (by omega) (Ne.symm h6),hne a 7 (by omega) (Ne.symm h7)⟩)
theorem ah.NV(h:ah c zs pool os)(hr:RingAt c zs l)(hm:c.May)(hz:zs.length=c.size)(ho:o∈os)(hn:o.h∉l):
  RingAt c (bg c o.h zs) (l++[o.h])∧oz c zs (bg c o.h zs) os∧∀o',o'∈os→nth (bg c o.h zs) (adr c o'.h 3)=nth zs (adr c o'.h 3):=by
 have hw:=hm.w
 have hA:=h.obs o ho
 have hR:=hr.add hm hz hA.hlt hn hA.head
 have hg:=hr.QQ hA.hlt hn
 refine⟨hR,⟨mR c o.h zs,fun i hi hne=> ?_,fun o' ho'=> ?_⟩,fun o' ho'=>nW hr hz ⟨by have:=aI c o'.h 3;omega,by have:=aI c o'.h 3;omega,by have:=aI c o'.h 3;omega,fun e=>by have:=(ax (by omega) (by omega) e).2;omega,fun x _=>⟨fun e=>by have:=(ax (by omega) (by omega) e).2;omega,fun e=>by have:=(ax (by omega) (by omega) e).2;omega⟩⟩⟩
 ·refine nW hr hz ⟨by omega,by omega,by omega,hne o ho 0 (by omega) (by omega) (by omega),fun x hx=> ?_⟩
  obtain⟨o',ho',rfl⟩:∃o',o'∈os∧o'.h=x:=by
   rcases hx with rfl|hx
   ·exact⟨o,ho,rfl⟩
   ·exact h.nY hm hr hx
  exact⟨hne o' ho' 6 (by omega) (by omega) (by omega),hne o' ho' 7 (by omega) (by omega) (by omega)⟩
 ·refine⟨hR.tok _ (h.obs o' ho').hlt,?_⟩
  rw[tV hm hz (h.obs o' ho').hlt]
  split
  ·rename_i e
   rw[e]
   exact(hA.tok.OM hA.head hg).2.2.2.1
  ·rfl
theorem ah.NW{l1 l2:List Nat}(h:ah c zs pool os)(hr:RingAt c zs (l1++o.h::l2))(hm:c.May)(hz:zs.length=c.size)(ho:o∈os):
  RingAt c (aY c o.h zs) (l1++l2)∧oz c zs (aY c o.h zs) os∧∀o',o'∈os→nth (aY c o.h zs) (adr c o'.h 3)=nth zs (adr c o'.h 3):=by
 have hw:=hm.w
 have hA:=h.obs o ho
 have hR:=hr.cut hm hz
 have hg:uG (nth zs (adr c o.h 0))=1:=(hr.mrk _ hA.hlt).2 (by simp)
 refine⟨hR,⟨mU c o.h zs,fun i hi hne=> ?_,fun o' ho'=> ?_⟩,fun o' ho'=>nX hr hz ⟨by have:=aI c o'.h 3;omega,by have:=aI c o'.h 3;omega,by have:=aI c o'.h 3;omega,fun e=>by have:=(ax (by omega) (by omega) e).2;omega,fun x _=>⟨fun e=>by have:=(ax (by omega) (by omega) e).2;omega,fun e=>by have:=(ax (by omega) (by omega) e).2;omega⟩⟩⟩
 ·refine nX hr hz ⟨by omega,by omega,by omega,hne o ho 0 (by omega) (by omega) (by omega),fun x hx=> ?_⟩
  obtain⟨o',ho',rfl⟩:∃o',o'∈os∧o'.h=x:=by
   rcases hx with rfl|hx
   ·exact⟨o,ho,rfl⟩
   ·refine h.nY hm hr (?_:x∈l1++o.h::l2)
    rcases List.mem_append.1 hx with h1|h1
    ·simp[h1]
    ·simp[h1]
  exact⟨hne o' ho' 6 (by omega) (by omega) (by omega),hne o' ho' 7 (by omega) (by omega) (by omega)⟩
 ·refine⟨hR.tok _ (h.obs o' ho').hlt,?_⟩
  rw[tX hm hz (h.obs o' ho').hlt]
  split
  ·rename_i e
   rw[e]
   exact(hA.tok.OL hA.head hg).2.2.2.1
  ·rfl
structure JG (c:Cf) (zs:List Int) (os:List Ob):Prop where
 reg:∀r,3≤r→r<24→nth zs r=0
 tag:∀o,o∈os→nth zs (adr c o.h 0)=1∨nth zs (adr c o.h 0)=2
 cnt:∀o,o∈os→nth zs (adr c o.h 3)=0
theorem nE.fresh(h:nE c zs):JG c zs []:=⟨fun r h3 h24=>h.2 r (by omega) (fun b _ e=>by have:=aI c b 5;omega),fun o ho=>absurd ho (by simp),fun o ho=>absurd ho (by simp)⟩
theorem JG.ring(hf:JG c zs os)(h:ah c zs pool os)(hm:c.May):RingAt c zs []:=by
 have hn:=hm.n
 have hk:∀b,b<c.N→dB (nth zs (adr c b 0))∧uG (nth zs (adr c b 0))=0:=fun b hb=>by
  rcases h.kinds hb with h0|⟨o,ho,rfl⟩|⟨x,hx,h2⟩
  ·rw[h0];exact⟨iQ.1,iQ.2.1⟩
  ·refine⟨(h.obs o ho).tok,?_⟩
   rcases hf.tag o ho with e|e<;>rw[e]<;>decide
  ·rw[h2];exact⟨(nN (by omega)).1,(nN (by omega)).2.1⟩
 refine⟨by rw[hf.reg 7 (by omega) (by omega)];rfl,by rw[hf.reg 8 (by omega) (by omega)];rfl,by rw[hf.reg 9 (by omega) (by omega)];rfl,by simp,by simp,trivial,fun b hb=>(hk b hb).1,by simp,fun b hb=> ?_⟩
 rw[(hk b hb).2]
 simp
end
def Th.ob(t:Th):Ob:=⟨t.h,t.pt.length,t.dt.length,t.lv.map (fun x=>(x+1).toNat)⟩
def Th.tF(t:Th)(i:Nat):Int:=if i<t.pt.length then nth t.pt i else nth t.dt (i-t.pt.length)
def aM(l:List Th):List Th:=l.filter (fun t=> !t.ended)
def Wd.live(D:Wd):List Th:=aM D.ts
def Wd.obs(D:Wd):List Ob:=D.live.map Th.ob
def Wd.reg(D:Wd):Nat→Int
 |10=>D.parity
 |11=>D.phase
 |12=>D.cursor
 |13=>D.field
 |14=>D.scan
 |15=>D.scanF
 |16=>D.suspect
 |17=>D.units
 |18=>D.epochs%4294967296
 |_=>0
structure zB (c:Cf) (zs:List Int) (h:Nat) (m:Mrk):Prop where
 cC:uC (nth zs (adr c h 0))=m.color
 cN:uN (nth zs (adr c h 0))=m.count
 cS:uS (nth zs (adr c h 0))=m.shade
 cD:uD (nth zs (adr c h 0))=if m.dead then 1 else 0
 w3:nth zs (adr c h 3)=m.refs
 w4:nth zs (adr c h 4)=m.shadow
structure av (c:Cf) (zs:List Int) (D:Wd):Prop where
 n:D.n=c.N
 w:D.w=c.W
 heap:ah c zs D.clean D.obs
 own:∀t,t∈D.live→zB c zs t.h t.mr
 tF:∀t,t∈D.live→∀i a,i<t.ob.f→aS c t.ob i=some a→nth zs a=t.tF i
 ring:RingAt c zs D.ring
 grave:aR c zs 1 (D.grave.map (· -1))
 r6:nth zs 6=D.pending
 reg:∀k,10≤k→k≤18→nth zs k=D.reg k
 par:D.parity=0∨D.parity=1
 gv:∀r,r∈D.grave→∃t,t∈D.live∧t.h+1=r
 bur:∀t,t∈D.live→t.h+1∈D.grave→t.mr.dead=true∧nth zs (adr c t.h 6)=t.mr.left∧nth zs (adr c t.h 7)=t.mr.leaves∧t.h∉D.ring
section
variable {c:Cf} {zs zs':List Int} {D D':Wd} {t s:Th} {r:Int} {l:List Th}
theorem bH{l:List Th}:t∈aM l↔t∈l∧t.ended=false:=by unfold aM;rw[List.mem_filter];simp
theorem find_live(h:D.find r=some t):t∈D.live∧(t.h:Int)+1=r:=by
 obtain⟨h1,h2,h3⟩:=find_at h
 exact⟨bH.2 ⟨h1,h2⟩,h3⟩
theorem az(u:Th)(l:List Th):aM (u::l)=if u.ended then aM l else u::aM l:=by
 unfold aM
 cases h:u.ended<;>simp[h]
theorem bD{g:Th→Th}:∀{l:List Th},((aM l).map Th.h).Nodup→aP r l=some t→s∈aM (bz r g l)→(s=g t)∨(s∈aM l∧s.h≠t.h)
 |[],_,h,_=>by simp[aP] at h
 |u::l,hn,h,hs=>by
  unfold aP at h
  unfold bz at hs
  cases hu:u.at r with
  |true=>
   rw[hu] at h hs
   simp at h hs
   subst h
   have hue:u.ended=false:=by unfold Th.at at hu;simp at hu;exact hu.1
   rw[az,hue] at hn ⊢
   simp at hn ⊢
   obtain⟨m1,m2⟩:=bH.1 hs
   rcases List.mem_cons.1 m1 with rfl|m1
   ·exact .inl rfl
   ·exact .inr ⟨.inr (bH.2 ⟨m1,m2⟩),fun e=>hn.1 s (bH.2 ⟨m1,m2⟩) e⟩
  |false=>
   rw[hu] at h hs
   simp at h hs
   have ht:=find_at h
   have htl:t∈aM l:=bH.2 ⟨ht.1,ht.2.1⟩
   rw[az] at hn hs ⊢
   cases hue:u.ended with
   |true=>
    rw[hue] at hn hs
    simp at hn hs ⊢
    exact bD hn h hs
   |false=>
    rw[hue] at hn hs
    simp at hn hs ⊢
    rcases hs with rfl|hs
    ·exact .inr ⟨.inl rfl,fun e=>hn.1 t htl e.symm⟩
    ·rcases bD hn.2 h hs with h1|h1
     ·exact .inl h1
     ·exact .inr ⟨.inr h1.1,h1.2⟩
theorem rE{g:Th→Th}(hg:∀t,(g t).ended=t.ended∧(g t).ob=t.ob):∀l:List Th,(aM (bz r g l)).map Th.ob=(aM l).map Th.ob
 |[]=>rfl
 |u::l=>by
  unfold bz
  split
  ·rw[az,az,(hg u).1]
   split
   ·rfl
   ·simp[(hg u).2]
  ·rw[az,az]
   split
   ·exact rE hg l
   ·simp[rE hg l]
theorem iy{g:Th→Th}(hg:∀t,(g t).ended=t.ended∧(g t).h=t.h)(q:Int):∀l:List Th,aP q (bz r g l)=(aP q l).map (fun t=>if t.at r then g t else t)
 |[]=>rfl
 |u::l=>by
  have hat:(g u).at q=u.at q:=by unfold Th.at;rw[(hg u).1,(hg u).2]
  have hqr:∀v:Th,v.at q=true→(v.at r=true↔q=r):=fun v hv=>by
   unfold Th.at at*
   simp at*
   rw[hv.1,hv.2]
   simp
  unfold bz
  cases hu:u.at r with
  |true=>
   simp[aP,hat]
   cases hq:u.at q with
   |true=>simp[hu]
   |false=>
    simp
    cases h:aP q l with
    |none=>rfl
    |some v=>
     have hv:v.at q=true:=by
      obtain⟨i,hi,_⟩:=jI h
      obtain⟨w',h1,h2,_⟩:=qB hi
      obtain⟨j,hj,hv⟩:=jI h
      rw[hi] at hj;cases hj
      rw[hv] at h1;cases h1
      exact h2
     have:¬v.at r=true:=fun e=>by
      have e1:=(hqr v hv).1 e
      rw[e1] at hq
      rw[hq] at hu
      cases hu
     simp[this]
  |false=>
   simp[aP]
   cases hq:u.at q with
   |true=>simp[hu]
   |false=>simp[iy hg q l]
theorem qN(f:Mrk→Mrk):(D.mark r f).obs=D.obs:=rE (g:=fun t=>{t with mr:=f t.mr}) (fun _=>⟨rfl,rfl⟩) D.ts
theorem find_mark(f:Mrk→Mrk)(q:Int):(D.mark r f).find q=(D.find q).map (fun t=>if t.at r then {t with mr:=f t.mr} else t):=iy (g:=fun t=>{t with mr:=f t.mr}) (fun _=>⟨rfl,rfl⟩) q D.ts
theorem av.nodup(R:av c zs D):(D.live.map Th.h).Nodup:=by
 have:=heads_nodup' R.heap.nodupB
 unfold Wd.obs at this
 rw[List.map_map] at this
 exact this
where
 heads_nodup':∀{os:List Ob},(os.flatMap Ob.blocks).Nodup→(os.map Ob.h).Nodup
 |[],_=>by simp
 |x::t,hn=>by
  rw[List.flatMap_cons,List.nodup_append] at hn
  obtain⟨n1,n2,n3⟩:=hn
  rw[List.map_cons,List.nodup_cons]
  refine⟨fun hm=> ?_,heads_nodup' n2⟩
  obtain⟨o,ho,e⟩:=List.mem_map.1 hm
  exact n3 x.h x.fV x.h (List.mem_flatMap.2 ⟨o,ho,e▸o.fV⟩) rfl
theorem ja(R:av c zs D){f:Mrk→Mrk}(hf:D.find r=some t)(hs:s∈(D.mark r f).live):s={t with mr:=f t.mr}∨(s∈D.live∧s.h≠t.h):=bD R.nodup hf hs
theorem av.obMem(R:av c zs D)(ht:t∈D.live):t.ob∈D.obs:=List.mem_map.2 ⟨t,ht,rfl⟩
theorem av.hlt(R:av c zs D)(ht:t∈D.live):t.h<c.N:=(R.heap.obs t.ob (R.obMem ht)).hlt
theorem av.findIt(R:av c zs D)(ht:t∈D.live):D.find ((t.h:Int)+1)=some t:=by
 have hn:=R.nodup
 unfold Wd.live at hn ht
 unfold Wd.find
 revert ht hn
 induction D.ts with
 |nil=>intro ht hn;simp[aM] at ht
 |cons u l ih=>
  intro ht hn
  unfold aP
  rw[az] at hn ht
  cases hue:u.ended with
  |true=>
   rw[hue] at hn ht
   have:u.at ((t.h:Int)+1)=false:=by unfold Th.at;simp[hue]
   simp[this]
   exact ih (by simpa using ht) (by simpa using hn)
  |false=>
   rw[hue] at hn ht
   simp at hn ht
   rcases ht with rfl|ht
   ·have:t.at ((t.h:Int)+1)=true:=by unfold Th.at;simp[hue]
    simp[this]
   ·have:u.at ((t.h:Int)+1)=false:=by
     unfold Th.at
     simp[hue]
     intro e
     exact hn.1 t ht (by omega)
    simp[this]
    exact ih ht hn.2
theorem obAt_find(R:av c zs D)(r:Int):dJ D.obs r=(D.find r).map Th.ob:=by
 cases h:D.find r with
 |some t=>
  obtain⟨h1,rfl⟩:=find_live h
  exact R.heap.dJ (R.obMem h1)
 |none=>
  cases ho:dJ D.obs r with
  |none=>rfl
  |some o=>
   obtain⟨h1,h2⟩:=jK ho
   unfold Wd.obs at h1
   obtain⟨t,ht,rfl⟩:=List.mem_map.1 h1
   have:=R.findIt ht
   rw[show((t.h:Int)+1)=r from h2] at this
   rw[this] at h
   cases h
theorem av.frame(R:av c zs D)(hm:c.May)(K:oz c zs zs' D.obs)(hn:D'.n=D.n)(hw:D'.w=D.w)(hcl:D'.clean=D.clean)(hob:D'.obs=D.obs)
  (hf:∀t',t'∈D'.live→∃t,t∈D.live∧t'.h=t.h∧t'.lv=t.lv∧t'.pt=t.pt∧t'.dt=t.dt) (ho:∀t',t'∈D'.live→zB c zs' t'.h t'.mr) (hr:RingAt c zs' D'.ring)
  (hg:aR c zs' 1 (D'.grave.map (· -1))) (h6:nth zs' 6=D'.pending) (hreg:∀k,10≤k→k≤18→nth zs' k=D'.reg k) (hp:D'.parity=0∨D'.parity=1)
  (hgv:∀r,r∈D'.grave→∃t,t∈D'.live∧t.h+1=r) (hbu:∀t,t∈D'.live→t.h+1∈D'.grave→t.mr.dead=true∧nth zs' (adr c t.h 6)=t.mr.left∧nth zs' (adr c t.h 7)=t.mr.leaves∧t.h∉D'.ring):av c zs' D':=by
 obtain⟨h1,h2⟩:=R.heap.heads hm K
 refine⟨by rw[hn];exact R.n,by rw[hw];exact R.w,by rw[hcl,hob];exact h1,ho,fun t' ht' i a hi ha=> ?_,hr,hg,h6,hreg,hp,hgv,hbu⟩
 obtain⟨t,ht,e1,e2,e3,e4⟩:=hf t' ht'
 have eo:t'.ob=t.ob:=by unfold Th.ob;rw[e1,e2,e3,e4]
 have ef:t'.tF i=t.tF i:=by unfold Th.tF;rw[e3,e4]
 rw[eo] at hi ha
 rw[ef,←R.tF t ht i a hi ha]
 have:=h2 t.ob i (R.obMem ht) hi
 unfold fK at this
 rw[ha] at this
 exact this
theorem aR.same{k:Nat}{l:List Nat}(h:aR c zs k l)(hr:∀r,3*k≤r→r<3*k+3→nth zs' r=nth zs r)(hl:∀b,b<c.N→nth zs' (adr c b 5)=nth zs (adr c b 5)):aR c zs' k l:=
 h.congr (hr _ (by omega) (by omega)) (hr _ (by omega) (by omega)) (hr _ (by omega) (by omega)) (fun b hb=>by rw[gD];exact hl b (h.lt b hb))
theorem av.jv(R:av c zs D)(hm:c.May)(hz:zs.length=c.size){k:Nat}{x:Int}(hk0:10≤k)(hk1:k≤18)(hn:D'.n=D.n)(hw:D'.w=D.w)(hcl:D'.clean=D.clean)(hts:D'.ts=D.ts)(hri:D'.ring=D.ring)(hgr:D'.grave=D.grave)(hpe:D'.pending=D.pending)
  (hx:D'.reg k=x) (ho:∀j,10≤j→j≤18→j≠k→D'.reg j=D.reg j) (hp:D'.parity=0∨D'.parity=1):av c (zs.set k x) D':=by
 have hs:=hm.size
 have ha:∀b u,nth (zs.set k x) (adr c b u)=nth zs (adr c b u):=fun b u=>ai (fun e=>by have:=aI c b u;omega) x
 have hr:∀j,j≠k→nth (zs.set k x) j=nth zs j:=fun j hj=>ai (fun e=>hj e.symm) x
 have hlive:D'.live=D.live:=by unfold Wd.live;rw[hts]
 refine R.frame hm ⟨by simp,fun i hi hne=>hr i (by omega),fun o ho'=>by rw[ha];exact⟨(R.heap.obs o ho').tok,rfl⟩⟩ hn hw hcl (by unfold Wd.obs;rw[hlive]) (fun t' ht'=>⟨t',hlive▸ht',rfl,rfl,rfl,rfl⟩) (fun t' ht'=> ?_) ?_ ?_ (by rw[hr 6 (by omega),hpe];exact R.r6) (fun j h1 h2=> ?_) hp (by rw[hgr,hlive];exact R.gv) (fun t' ht' hg=>by rw[ha,ha,hri];exact R.bur t' (hlive▸ht') (hgr▸hg))
 ·obtain⟨a1,a2,a3,a4,a5,a6⟩:=R.own t' (hlive▸ht')
  constructor<;>rw[ha]<;>assumption
 ·rw[hri]
  exact R.ring.congr (fun j hj=>hr j (by omega)) (fun b _=>ha b 0) (fun b _=>⟨ha b 6,ha b 7⟩)
 ·rw[hgr]
  exact R.grave.same (fun j h1 h2=>hr j (by omega)) (fun b _=>ha b 5)
 ·by_cases e:j=k
  ·subst e
   rw[aN (by rw[hz];omega),hx]
  ·rw[hr j e,ho j h1 h2 e]
   exact R.reg j h1 h2
theorem RingAt.setTag{l:List Nat}(h:RingAt c zs l)(hm:c.May)(hz:zs.length=c.size){b:Nat}(hb:b<c.N){x:Int}(hx:dB x)(hk:uK x=uK (nth zs (adr c b 0)))(hg:uG x=uG (nth zs (adr c b 0))):RingAt c (zs.set (adr c b 0) x) l:=by
 have hw:=hm.w
 have hne:∀a u,u<8→(a≠b∨u≠0)→nth (zs.set (adr c b 0) x) (adr c a u)=nth zs (adr c a u):=fun a u hu hn=>ai (fun e=>by
  have:=ax (c:=c) (by omega) (by omega) e
  rcases hn with hn|hn
  ·exact hn this.1.symm
  ·exact hn this.2.symm) x
 have hself:nth (zs.set (adr c b 0) x) (adr c b 0)=x:=aN (by rw[hz];exact fu hb (by omega)) x
 have hreg:∀r,r<24→nth (zs.set (adr c b 0) x) r=nth zs r:=fun r hr=>ai (fun e=>by have:=aI c b 0;omega) x
 refine⟨by rw[hreg 7 (by omega)];exact h.r7,by rw[hreg 8 (by omega)];exact h.r8,by rw[hreg 9 (by omega)];exact h.r9,h.lt,h.nd,h.seg.congr (fun a _=>⟨hne a 6 (by omega) (.inr (by omega)),hne a 7 (by omega) (.inr (by omega))⟩),fun a ha=> ?_,fun a ha=> ?_,fun a ha=> ?_⟩
 ·by_cases e:a=b
  ·rw[e,hself];exact hx
  ·rw[hne a 0 (by omega) (.inl e)];exact h.tok a ha
 ·by_cases e:a=b
  ·rw[e,hself]
   have:=h.hd a ha
   rw[e] at this
   unfold bF at*
   rw[hk];exact this
  ·rw[hne a 0 (by omega) (.inl e)];exact h.hd a ha
 ·by_cases e:a=b
  ·rw[e,hself,hg];exact h.mrk b hb
  ·rw[hne a 0 (by omega) (.inl e)];exact h.mrk a ha
theorem pX(R:av c zs D){f:Mrk→Mrk}(hf:D.find r=some t)(hs:s∈(D.mark r f).live):∃u,u∈D.live∧s.h=u.h∧s.lv=u.lv∧s.pt=u.pt∧s.dt=u.dt:=by
 rcases ja R hf hs with rfl|⟨h,_⟩
 ·exact⟨t,(find_live hf).1,rfl,rfl,rfl,rfl⟩
 ·exact⟨s,h,rfl,rfl,rfl,rfl⟩
theorem zR(R:av c zs D)(f:Mrk→Mrk)(q:Nat)(hq:q∈D.grave):∃u,u∈(D.mark r f).live∧u.h+1=q:=by
 obtain⟨u,hu,e⟩:=R.gv q hq
 have h1:u.ob∈(D.mark r f).obs:=by rw[qN];exact R.obMem hu
 obtain⟨v,hv,e2⟩:=List.mem_map.1 h1
 have:v.h=u.h:=congrArg Ob.h e2
 exact⟨v,hv,by omega⟩
theorem av.setTag(R:av c zs D)(hm:c.May)(hz:zs.length=c.size)(hf:D.find r=some t){x:Int}(hx:dB x)(hk:uK x=uK (nth zs (adr c t.h 0)))(hg:uG x=uG (nth zs (adr c t.h 0))){f:Mrk→Mrk}
  (hm':f t.mr={t.mr with color:=uC x,count:=uN x,shade:=uS x,dead:=decide (uD x=1)}) (hd:t.mr.dead=true→uD x=1):av c (zs.set (adr c t.h 0) x) (D.mark r f):=by
 have hw:=hm.w
 obtain⟨htl,hr⟩:=find_live hf
 have hlt:=R.hlt htl
 have hne:∀a u,u<8→(a≠t.h∨u≠0)→nth (zs.set (adr c t.h 0) x) (adr c a u)=nth zs (adr c a u):=fun a u hu hn=>ai (fun e=>by
  have:=ax (c:=c) (by omega) (by omega) e
  rcases hn with hn|hn
  ·exact hn this.1.symm
  ·exact hn this.2.symm) x
 have hself:nth (zs.set (adr c t.h 0) x) (adr c t.h 0)=x:=aN (by rw[hz];exact fu hlt (by omega)) x
 have hreg:∀r,r<24→nth (zs.set (adr c t.h 0) x) r=nth zs r:=fun r hr=>ai (fun e=>by have:=aI c t.h 0;omega) x
 have hD:uD x=0∨uD x=1:=by unfold uD;omega
 refine R.frame hm ⟨by simp,fun i hi hne'=>ai (fun e=>hne' t.ob (R.obMem htl) 0 (by omega) (by omega) (by omega) e.symm) x,fun o ho=> ?_⟩ rfl rfl rfl (qN f) (fun s hs=>pX R hf hs) (fun s hs=> ?_) (R.ring.setTag hm hz hlt hx hk hg) (R.grave.same (fun j h1 h2=>hreg j (by omega)) (fun b _=>hne b 5 (by omega) (.inr (by omega)))) (by rw[hreg 6 (by omega)];exact R.r6) (fun j h1 h2=>by rw[hreg j (by omega)];exact R.reg j h1 h2) R.par (fun q hq=>zR R f q hq) (fun s hs hg'=> ?_)
 ·by_cases e:o.h=t.h
  ·rw[e,hself];exact⟨hx,hk⟩
  ·rw[hne o.h 0 (by omega) (.inl e)];exact⟨(R.heap.obs o ho).tok,rfl⟩
 ·rcases ja R hf hs with rfl|⟨h,hn⟩
  ·have:=R.own t htl
   refine⟨?_,?_,?_,?_,?_,?_⟩
   ·rw[hself];simp only[hm']
   ·rw[hself];simp only[hm']
   ·rw[hself];simp only[hm']
   ·rw[hself]
    simp only[hm']
    rcases hD with e|e<;>rw[e]<;>decide
   ·rw[hne t.h 3 (by omega) (.inr (by omega))];simp only[hm'];exact this.w3
   ·rw[hne t.h 4 (by omega) (.inr (by omega))];simp only[hm'];exact this.w4
  ·obtain⟨a1,a2,a3,a4,a5,a6⟩:=R.own s h
   constructor<;>rw[hne s.h _ (by omega) (.inl hn)]<;>assumption
 ·rcases ja R hf hs with rfl|⟨h,hn⟩
  ·obtain⟨b1,b2,b3,b4⟩:=R.bur t htl hg'
   refine⟨?_,?_,?_,b4⟩
   ·simp only[hm',hd b1];rfl
   ·rw[hne t.h 6 (by omega) (.inr (by omega))];simp only[hm'];exact b2
   ·rw[hne t.h 7 (by omega) (.inr (by omega))];simp only[hm'];exact b3
  ·rw[hne s.h 6 (by omega) (.inl hn),hne s.h 7 (by omega) (.inl hn)]
   exact R.bur s h hg'
theorem av.nZ(R:av c zs D)(hm:c.May)(hz:zs.length=c.size)(hf:D.find r=some t){v:Nat}(hv:v=3∨v=4){x:Int}{f:Mrk→Mrk}
  (hm':f t.mr=if v=3 then {t.mr with refs:=x} else {t.mr with shadow:=x}):av c (zs.set (adr c t.h v) x) (D.mark r f):=by
 have hw:=hm.w
 obtain⟨htl,hr⟩:=find_live hf
 have hlt:=R.hlt htl
 have hne:∀a u,u<8→(a≠t.h∨u≠v)→nth (zs.set (adr c t.h v) x) (adr c a u)=nth zs (adr c a u):=fun a u hu hn=>ai (fun e=>by
  have:=ax (c:=c) (by omega) (by omega) e
  rcases hn with hn|hn
  ·exact hn this.1.symm
  ·exact hn this.2.symm) x
 have hself:nth (zs.set (adr c t.h v) x) (adr c t.h v)=x:=aN (by rw[hz];exact fu hlt (by omega)) x
 have hreg:∀r,r<24→nth (zs.set (adr c t.h v) x) r=nth zs r:=fun r hr=>ai (fun e=>by have:=aI c t.h v;omega) x
 refine R.frame hm ⟨by simp,fun i hi hne'=>ai (fun e=>hne' t.ob (R.obMem htl) v (by omega) (by omega) (by omega) e.symm) x,fun o ho=>by rw[hne o.h 0 (by omega) (.inr (by omega))];exact⟨(R.heap.obs o ho).tok,rfl⟩⟩ rfl rfl rfl (qN f) (fun s hs=>pX R hf hs) (fun s hs=> ?_) (R.ring.nZ hm (by omega) (by omega) (by omega) (by omega) x) (R.grave.same (fun j h1 h2=>hreg j (by omega)) (fun b _=>hne b 5 (by omega) (.inr (by omega)))) (by rw[hreg 6 (by omega)];exact R.r6) (fun j h1 h2=>by rw[hreg j (by omega)];exact R.reg j h1 h2) R.par (fun q hq=>zR R f q hq) (fun s hs hg'=> ?_)
 ·rcases ja R hf hs with rfl|⟨h,hn⟩
  ·have:=R.own t htl
   have h0:=hne t.h 0 (by omega) (.inr (by omega))
   rcases hv with rfl|rfl
   ·rw[if_pos rfl] at hm'
    have h4:=hne t.h 4 (by omega) (.inr (by omega))
    refine⟨?_,?_,?_,?_,?_,?_⟩<;>simp only[hm',h0,h4,hself]
    ·exact this.cC
    ·exact this.cN
    ·exact this.cS
    ·exact this.cD
    ·exact this.w4
   ·rw[if_neg (by decide)] at hm'
    have h3:=hne t.h 3 (by omega) (.inr (by omega))
    refine⟨?_,?_,?_,?_,?_,?_⟩<;>simp only[hm',h0,h3,hself]
    ·exact this.cC
    ·exact this.cN
    ·exact this.cS
    ·exact this.cD
    ·exact this.w3
  ·obtain⟨a1,a2,a3,a4,a5,a6⟩:=R.own s h
   constructor<;>rw[hne s.h _ (by omega) (.inl hn)]<;>assumption
 ·have e6:∀b,nth (zs.set (adr c t.h v) x) (adr c b 6)=nth zs (adr c b 6):=fun b=>hne b 6 (by omega) (.inr (by omega))
  have e7:∀b,nth (zs.set (adr c t.h v) x) (adr c b 7)=nth zs (adr c b 7):=fun b=>hne b 7 (by omega) (.inr (by omega))
  rcases ja R hf hs with rfl|⟨h,hn⟩
  ·have hb:=R.bur t htl hg'
   rw[e6,e7]
   have k1:(f t.mr).dead=t.mr.dead:=by rw[hm'];split<;>rfl
   have k2:(f t.mr).left=t.mr.left:=by rw[hm'];split<;>rfl
   have k3:(f t.mr).leaves=t.mr.leaves:=by rw[hm'];split<;>rfl
   exact⟨by show(f t.mr).dead=true;rw[k1];exact hb.1,by show _=(f t.mr).left;rw[k2];exact hb.2.1,by show _=(f t.mr).leaves;rw[k3];exact hb.2.2.1,hb.2.2.2⟩
  ·rw[e6,e7]
   exact R.bur s h hg'
end
structure ME:Prop where
 take_yes:∀(c:Cf) (zs:List Int) (l:List Nat) (b:Nat),Wz c zs→RingAt c zs (b::l)→gY c 183 [] zs 24 (aY c b zs) (.tuple #[.int .i64 (b:Int),.bool true])
 take_no:∀(c:Cf) (zs:List Int),Wz c zs→RingAt c zs []→gY c 183 [] zs 24 zs (.tuple #[.int .i64 0,.bool false])
structure uB:Prop where
 open_yes : ∀ (c : Cf), c.May → ∃ zs', gY c 35 [] (List.replicate c.size 0) (200 * c.N + 200) zs' (.bool true) ∧ nE c zs'
 len:∀(c:Cf) (zs:List Int) (l:List Nat),Wz c zs→aR c zs 0 l→gY c 28 [] zs 24 zs (.int .i64 (l.length:Int))
theorem nE.heap{c:Cf}{zs:List Int}(h:nE c zs):ah c zs (List.range c.N) []:=⟨h.1,fun o ho=>absurd ho (by simp),by simp⟩
def HSt(w:World)(p:Pl)(c:Cf)(zs:List Int)(pool:List Nat)(os:List Ob)(wr:World):Prop:=
 ∃m,G wr p c ⟨zs,m⟩∧ah c zs pool os∧(∀k,inG p k→w.heap.size≤k)∧Below w.heap.size w wr
theorem HSt.heap{w wr:World}{p:Pl}{c:Cf}{zs:List Int}{pool:List Nat}{os:List Ob}(h:HSt w p c zs pool os wr):ah c zs pool os:=by obtain⟨m,hG,hh,_⟩:=h;exact hh
structure Seen (w:World) (q lo hi:Nat) (P D:List Int) (n1 n2:Nat) (a1:Option Addr) (c1:Nat) (a2:Option Addr) (c2:Nat):Prop where
 box:Blk w q #[.slice a1 n1 c1,.slice a2 n2 c2] 57
 r1:iA w .i64 a1 P
 r2:iA w .u32 a2 D
 l1:P.length=n1
 l2:D.length=n2
 hq:lo≤q∧q<hi
 h1:∀b off,a1=some ⟨b,off,none⟩→lo≤b∧b<hi∧b≠q
 h2:∀b off,a2=some ⟨b,off,none⟩→lo≤b∧b<hi∧b≠q
 h12:∀b off b' off',a1=some ⟨b,off,none⟩→a2=some ⟨b',off',none⟩→b≠b'
theorem Seen.touch{X:Nat→Prop}{w w':World}{q lo hi:Nat}{P D:List Int}{n1 n2:Nat}{a1:Option Addr}{c1:Nat}{a2:Option Addr}{c2:Nat}(h:Seen w q lo hi P D n1 n2 a1 c1 a2 c2)(t:Touch X w w')(hx:∀i,lo≤i→i<hi→¬X i):Seen w' q lo hi P D n1 n2 a1 c1 a2 c2:=
 ⟨h.box.touch t (hx q h.hq.1 h.hq.2),h.r1.touch t (fun _ b off e=>hx b (h.h1 b off e).1 (h.h1 b off e).2.1),h.r2.touch t (fun _ b off e=>hx b (h.h2 b off e).1 (h.h2 b off e).2.1),h.l1,h.l2,h.hq,h.h1,h.h2,h.h12⟩
theorem Ps{zs:List Int}(a b:Option Addr)(n ca cb:Nat)(w:World)(hn:zs.length=n)(h1:Row w .i64 a zs)(h2:Row w .i64 b zs)(hl:n≤10000):
  Calls Tryz.prog 24 #[.slice a n ca,.slice b n cb] w fun e w'=>e=.returned (.bool true)∧Drw w w':=by
 subst hn
 exact Dn a b ca cb zs w h1 h2 hl
theorem zD(c:Cf)(b v:Nat):¬adr c b v<3:=by unfold adr;omega
def dL(c:Cf):List Nat→List Int→List Int
 |[],zs=>zs
 |b::l,zs=>dL c l (bS c b zs)
theorem DV(c:Cf)(l:List Nat)(b:Nat)(zs:List Int):dL c (l++[b]) zs=bS c b (dL c l zs):=by
 induction l generalizing zs with
 |nil=>rfl
 |cons x t ih=>exact ih _
theorem xR(c:Cf)(l:List Nat)(zs:List Int):(dL c l zs).length=zs.length:=by
 induction l generalizing zs with
 |nil=>rfl
 |cons x t ih=>show(dL c t _).length=_;rw[ih,eT]
theorem bK.taken{c:Cf}{pool:List Nat}:∀(l:List Nat) {zs:List Int},bK c zs (l++pool)→c.May→zs.length=c.size→l.Nodup→
  bK c (dL c l zs) pool∧(∀b v,b∈l→v<c.W→nth (dL c l zs) (adr c b v)=0)∧(∀i,¬i<3→(∀b,b∈l→¬iV c b i)→nth (dL c l zs) i=nth zs i)
 |[],zs,h,_,_,_=>⟨h,fun b v hb=>absurd hb (by simp),fun i _ _=>rfl⟩
 |x::t,zs,h,hm,hz,hn=>by
  obtain⟨h1,h2⟩:=bK.take (b:=x) (l:=t++pool) h hm hz
  have hn':=List.nodup_cons.1 hn
  have hz':(bS c x zs).length=c.size:=by rw[eT,hz]
  obtain⟨a1,a2,a3⟩:=bK.taken t h1 hm hz' hn'.2
  refine⟨a1,fun b v hb hv=> ?_,fun i h3 hi=> ?_⟩
  ·rcases List.mem_cons.1 hb with rfl|hb
   ·rw[show dL c (b::t) zs=dL c t (bS c b zs) from rfl,a3 _ (zD _ _ _) (fun b' hb'=>iH (fun e=>hn'.1 (by rw[e];exact hb')) hv)]
    exact h2 v hv
   ·exact a2 b v hb hv
  ·rw[show dL c (x::t) zs=dL c t (bS c x zs) from rfl,a3 i h3 (fun b hb=>hi b (by simp[hb])),Ap hm hz (hi x (by simp)) h3]
def gG(c:Cf)(h:Nat)(t p d:Int)(z:List Int):List Int:=((z.set (adr c h 0) t).set (adr c h 1) p).set (adr c h 2) d
def gH(c:Cf)(h:Nat)(ls:List Nat):Nat→List Int→List Int
 |0,z=>z
 |k+1,z=>(gH c h ls k z).set (adr c h (8+k)) (((ls.getD k 0:Nat):Int)+1)
def jZ(c:Cf)(h:Nat)(ls:List Nat):Nat→List Int→List Int
 |0,z=>z
 |k+1,z=>(jZ c h ls k z).set (adr c (ls.getD k 0) 0) (3+256*(h:Int))
theorem qJ(c:Cf)(h:Nat)(ls:List Nat)(k:Nat)(z:List Int):(gH c h ls k z).length=z.length:=by
 induction k with
 |zero=>rfl
 |succ k ih=>show((gH c h ls k z).set _ _).length=_;rw[List.length_set,ih]
theorem CX(c:Cf)(h:Nat)(ls:List Nat)(k:Nat)(z:List Int):(jZ c h ls k z).length=z.length:=by
 induction k with
 |zero=>rfl
 |succ k ih=>show((jZ c h ls k z).set _ _).length=_;rw[List.length_set,ih]
theorem si(c:Cf)(h:Nat)(ls:List Nat)(z:List Int)(i:Nat):∀k,(∀j,j<k→i≠adr c h (8+j))→nth (gH c h ls k z) i=nth z i
 |0,_=>rfl
 |k+1,hi=>by
  show nth ((gH c h ls k z).set _ _) i=_
  rw[ai (fun e=>hi k (by omega) e.symm),si c h ls z i k (fun j hj=>hi j (by omega))]
theorem CQ{c:Cf}{h:Nat}(ls:List Nat){z:List Int}(hz:z.length=c.size)(hh:h<c.N):∀k,8+k≤c.W→∀j,j<k→nth (gH c h ls k z) (adr c h (8+j))=((ls.getD j 0:Nat):Int)+1
 |0,_,j,hj=>absurd hj (by omega)
 |k+1,hk,j,hj=>by
  show nth ((gH c h ls k z).set _ _) _=_
  by_cases e:j=k
  ·subst e
   exact aN (by rw[qJ,hz];exact fu hh (by omega)) _
  ·rw[ai (fun e2=>e (by have:=(ax (by omega) (by omega) e2).2;omega)),CQ ls hz hh k (by omega) j (by omega)]
theorem qP(c:Cf)(h:Nat)(ls:List Nat)(z:List Int)(i:Nat):∀k,(∀j,j<k→i≠adr c (ls.getD j 0) 0)→nth (jZ c h ls k z) i=nth z i
 |0,_=>rfl
 |k+1,hi=>by
  show nth ((jZ c h ls k z).set _ _) i=_
  rw[ai (fun e=>hi k (by omega) e.symm),qP c h ls z i k (fun j hj=>hi j (by omega))]
theorem GQ{c:Cf}{h:Nat}(ls:List Nat){z:List Int}(hw:0<c.W)(hz:z.length=c.size)(hl:∀j,j<ls.length→ls.getD j 0<c.N):∀k,k≤ls.length→∀j,j<k→nth (jZ c h ls k z) (adr c (ls.getD j 0) 0)=3+256*(h:Int)
 |0,_,j,hj=>absurd hj (by omega)
 |k+1,hk,j,hj=>by
  show nth ((jZ c h ls k z).set _ _) _=_
  rw[aX (by rw[CX,hz];exact fu (hl k (by omega)) hw)]
  by_cases e:adr c (ls.getD j 0) 0=adr c (ls.getD k 0) 0
  ·rw[if_pos e]
  ·rw[if_neg e,GQ ls hw hz hl k (by omega) j (by
    by_cases e2:j=k
    ·subst e2;exact absurd rfl e
    ·omega)]
theorem zX(c:Cf)(h:Nat)(t p d:Int)(z:List Int):(gG c h t p d z).length=z.length:=by unfold gG;simp
theorem EL{c:Cf}(hw:3≤c.W)(h:Nat)(t p d:Int)(z:List Int):bE c h z (gG c h t p d z):=
 ((bE.set (by omega) t).trans (bE.set (by omega) p)).trans (bE.set (by omega) d)
theorem vS{c:Cf}{h:Nat}(ls:List Nat)(z:List Int):∀k,8+k≤c.W→bE c h z (gH c h ls k z)
 |0,_=>bE.refl _ _ _
 |k+1,hk=>(vS ls z k (by omega)).trans (bE.set (by omega) _)
theorem bK.owned{c:Cf}{h:Nat}{ls pool:List Nat}{z:List Int}(hP:bK c z pool)(hm:c.May)(hl:∀j,j<ls.length→ls.getD j 0∉pool):∀k,k≤ls.length→bK c (jZ c h ls k z) pool
 |0,_=>hP
 |k+1,hk=>(bK.owned hP hm hl k (by omega)).only hm (hl k (by omega)) (bE.set (by have:=hm.w;omega) _)
theorem IC{c:Cf}{h:Nat}{z:List Int}(hw:3≤c.W)(hz:z.length=c.size)(hh:h<c.N)(t p d:Int):
  nth (gG c h t p d z) (adr c h 0)=t∧nth (gG c h t p d z) (adr c h 1)=p∧nth (gG c h t p d z) (adr c h 2)=d∧∀v,3≤v→v<c.W→nth (gG c h t p d z) (adr c h v)=nth z (adr c h v):=by
 have l:∀v,v<c.W→adr c h v<c.size:=fun v hv=>fu hh hv
 have n:∀u v:Nat,u<c.W→v<c.W→u≠v→adr c h u≠adr c h v:=fun u v hu hv h e=>h (ax hu hv e).2
 unfold gG
 refine⟨?_,?_,?_,fun v h3 hv=> ?_⟩
 ·rw[ai (n 2 0 (by omega) (by omega) (by omega)),ai (n 1 0 (by omega) (by omega) (by omega)),aN (by rw[hz];exact l 0 (by omega))]
 ·rw[ai (n 2 1 (by omega) (by omega) (by omega)),aN (by simp[hz];exact l 1 (by omega))]
 ·rw[aN (by simp[hz];exact l 2 (by omega))]
 ·rw[ai (n 2 v (by omega) hv (by omega)),ai (n 1 v (by omega) hv (by omega)),ai (n 0 v (by omega) hv (by omega))]
def kindOf(ls:List Nat):Int:=if ls.length=0 then 1 else 2
def vO(c:Cf)(h:Nat)(ls:List Nat)(p d:Int)(zs:List Int):List Int:=jZ c h ls ls.length (gH c h ls ls.length (gG c h (kindOf ls) p d (dL c (h::ls) zs)))
theorem qK(h p d:Nat)(ls:List Nat):(fZ h p d ls).leaves=ls:=by
 unfold Ob.leaves fZ
 rw[List.filterMap_map]
 have:((fun n=>if n=0 then none else some (n-1))∘fun x=>x+1)=(some:Nat→Option Nat):=by funext x;simp
 rw[this,List.filterMap_some]
theorem Qj:dB 1:=by unfold dB bY uK uC uN uS uD uG uO;decide
theorem Qk:dB 2:=by unfold dB bY uK uC uN uS uD uG uO;decide
theorem Ns{c:Cf}{zs:List Int}{h:Nat}{ls pool:List Nat}{os:List Ob}{p d:Nat}(hm:c.May)(hz:zs.length=c.size)(H:ah c zs (h::ls++pool) os)(he:dM c.W p d=0)(hb:(1+ls.length:Int)=bL c.W p d):
  zA c zs (vO c h ls p d zs) pool os (fZ h p d ls):=by
 have hw:=hm.w
 obtain⟨q0,q1,q2,q3,q4⟩:=rq he
 have hlv:(ls.length:Int)=cB c.W (p+d):=by unfold bL at hb;rw[if_pos he] at hb;omega
 have hL:=lg q0 q1 q4
 have hnd:(h::ls).Nodup:=by
  have:=H.nodup
  rw[List.append_assoc] at this
  exact(List.nodup_append.1 this).1
 have hnp:∀b,b∈h::ls→b∉pool:=fun b hb' hp=>by
  have:=(List.nodup_append.1 H.nodup).1
  exact(List.nodup_append.1 this).2.2 b hb' b hp rfl
 have hN:∀b,b∈h::ls→b<c.N:=fun b hb'=>List.mem_range.1 (H.perm.mem_iff.1 (List.mem_append_left _ (List.mem_append_left _ hb')))
 have hno:∀b o,o∈os→b∈o.blocks→b∉h::ls:=fun b o ho hbo hx=>H.kH ho hbo (List.mem_append_left _ hx)
 obtain⟨D1,D2,D3⟩:=bK.taken (h::ls) (pool:=pool) H.pl hm hz hnd
 have hhl:h∉ls:=(List.nodup_cons.1 hnd).1
 have hhN:=hN h (by simp)
 have hget:∀j,j<ls.length→ls.getD j 0∈ls:=fun j hj=>by simp[List.getD,hj]
 generalize eD:dL c (h::ls) zs=D at*
 have hDl:D.length=c.size:=by rw[←eD,xR,hz]
 generalize eH:gG c h (kindOf ls) p d D=Hd at*
 have hHl:Hd.length=c.size:=by rw[←eH,zX,hDl]
 obtain⟨b0,b1,b2,b3⟩:=IC (c:=c) (h:=h) (z:=D) (by omega) hDl hhN (kindOf ls) p d
 rw[eH] at b0 b1 b2 b3
 have hHo:bE c h D Hd:=by rw[←eH];exact EL (by omega) _ _ _ _ _
 have hk:8+ls.length≤c.W:=by omega
 generalize eN:gH c h ls ls.length Hd=Nm at*
 have hNl:Nm.length=c.size:=by rw[←eN,qJ,hHl]
 have hNo:bE c h Hd Nm:=by rw[←eN];exact vS ls Hd _ hk
 have hlN:∀j,j<ls.length→ls.getD j 0<c.N:=fun j hj=>hN _ (List.mem_cons_of_mem _ (hget j hj))
 have eM:vO c h ls p d zs=jZ c h ls ls.length Nm:=by unfold vO;rw[eD,eH,eN]
 rw[eM]
 -- what stands where
 have A:∀i,(∀b,b∈h::ls→¬iV c b i)→nth (jZ c h ls ls.length Nm) i=nth D i:=fun i hi=>by
  rw[qP c h ls Nm i _ (fun j hj e=>hi _ (List.mem_cons_of_mem _ (hget j hj)) (by rw[e];exact oH (by omega))),hNo.2 i (hi h (by simp)),hHo.2 i (hi h (by simp))]
 have Bh:∀v,v<c.W→nth (jZ c h ls ls.length Nm) (adr c h v)=nth Nm (adr c h v):=fun v hv=>
  qP c h ls Nm _ _ (fun j hj e=>hhl (by rw[(ax hv (by omega) e).1];exact hget j hj))
 have Bl:∀v,v<8→nth Nm (adr c h v)=nth Hd (adr c h v):=fun v hv=>by
  rw[←eN]
  exact si c h ls Hd _ _ (fun j hj e=>by have:=(ax (by omega) (by omega) e).2;omega)
 have Bn:∀j,j<ls.length→nth Nm (adr c h (8+j))=((ls.getD j 0:Nat):Int)+1:=fun j hj=>by rw[←eN];exact CQ ls hHl hhN _ hk j hj
 have Bz:∀v,3≤v→v<c.W→nth D (adr c h v)=0:=fun v h3 hv=>D2 h v (by simp) hv
 have C0:∀b,b∈ls→nth (jZ c h ls ls.length Nm) (adr c b 0)=3+256*(h:Int):=fun b hb'=>by
  obtain⟨j,hj,rfl⟩:=List.getElem_of_mem hb'
  have:=GQ (h:=h) ls (by omega) hNl hlN ls.length (Nat.le_refl _) j hj
  rw[show ls.getD j 0=ls[j] by simp[List.getD,hj]] at this
  exact this
 have C1:∀b v,b∈ls→1≤v→v<c.W→nth (jZ c h ls ls.length Nm) (adr c b v)=0:=fun b v hb' h1 hv=>by
  have hne:b≠h:=fun e=>hhl (by rw[←e];exact hb')
  rw[qP c h ls Nm _ _ (fun j hj e=>by have:=(ax hv (by omega) e).2;omega),hNo.2 _ (iH hne hv),hHo.2 _ (iH hne hv)]
  exact D2 b v (List.mem_cons_of_mem _ hb') hv
 have hsm:(fZ h p d ls).f≤c.W-8↔ls.length=0:=by
  show p+d≤c.W-8↔_
  constructor
  ·intro hs
   rw[jA (by omega)] at hlv
   omega
  ·intro h0
   by_cases hs:p+d≤c.W-8
   ·exact hs
   ·have:=(ma (W:=c.W) (n:=(p:Int)+d) q0 q1 (by omega) q4).1
    omega
 have hmem:∀b,b+1∈(fZ h p d ls).lv→b∈ls:=fun b hb'=>by
  have:=Ob.bA.2 hb'
  rw[qK] at this
  exact this
 have hblk:(fZ h p d ls).blocks=h::ls:=by unfold Ob.blocks;rw[qK];rfl
 have hObj:iU c (jZ c h ls ls.length Nm) (fZ h p d ls):=by
  refine⟨hhN,fun b hb'=>hN b (List.mem_cons_of_mem _ (hmem b hb')),?_,?_,by show((p+d:Nat):Int)≤_;omega,by show(((ls.map (· +1)).length:Nat):Int)=cB c.W ((p+d:Nat):Int);rw[List.length_map,hlv];congr 1,?_,?_,fun j hj=> ?_,fun b hb'=>C0 b (hmem b hb')⟩
  ·show nth _ (adr c h 1)=(p:Int);rw[Bh 1 (by omega),Bl 1 (by omega),b1]
  ·show nth _ (adr c h 2)=(d:Int);rw[Bh 2 (by omega),Bl 2 (by omega),b2]
  ·show dB (nth _ (adr c h 0));rw[Bh 0 (by omega),Bl 0 (by omega),b0];unfold kindOf;split;(· exact Qj);(· exact Qk)
  ·show uK (nth _ (adr c h 0))=_
   rw[Bh 0 (by omega),Bl 0 (by omega),b0]
   unfold kindOf
   by_cases h0:ls.length=0
   ·rw[if_pos h0,if_pos (hsm.2 h0)];rfl
   ·rw[if_neg h0,if_neg (fun hs=>h0 (hsm.1 hs))];rfl
  ·have hj':j<ls.length:=by simpa[fZ] using hj
   show nth _ (adr c h (8+j))=_
   rw[Bh _ (by omega),Bn j hj']
   simp[fZ,List.getD,hj']
 refine⟨⟨?_,fun o ho=> ?_,?_⟩,?_,fun v h3 h8=> ?_,fun i hi=> ?_,fun i h3 hi=> ?_⟩
 ·refine bK.owned ?_ hm (fun j hj=>hnp _ (List.mem_cons_of_mem _ (hget j hj))) _ (Nat.le_refl _)
  exact(D1.only hm (hnp h (by simp)) hHo).only hm (hnp h (by simp)) hNo
 ·rcases List.mem_append.1 ho with ho|ho
  ·have hA':=H.obs o ho
   have g:∀b v,b∈o.blocks→v<c.W→nth (jZ c h ls ls.length Nm) (adr c b v)=nth zs (adr c b v):=fun b v hbo hv=>by
    have hne:∀x,x∈h::ls→¬iV c x (adr c b v):=fun x hx=>iH (fun e=>hno b o ho hbo (by rw[e];exact hx)) hv
    rw[A _ hne,D3 _ (zD _ _ _) hne]
   have hl:=hA'.KW hm
   have hhm:o.h∈o.blocks:=by unfold Ob.blocks;simp
   refine hA'.congr ?_ ?_ ?_ (fun j hj=> ?_) (fun b hb'=> ?_)
   ·rw[g _ 0 hhm (by omega)];exact⟨hA'.tok,rfl⟩
   ·exact g _ 1 hhm (by omega)
   ·exact g _ 2 hhm (by omega)
   ·exact g _ (8+j) hhm (by omega)
   ·exact g _ 0 (by unfold Ob.blocks;exact List.mem_cons_of_mem _ (Ob.bA.2 hb')) (by omega)
  ·rw[List.mem_singleton.1 ho];exact hObj
 ·have hp:=H.perm
  rw[List.flatMap_append,List.flatMap_cons,List.flatMap_nil,List.append_nil,hblk,←List.append_assoc]
  refine List.Perm.trans List.perm_append_comm ?_
  rw[←List.append_assoc]
  exact hp
 ·show nth _ (adr c h 0)=_
  rw[Bh 0 (by omega),Bl 0 (by omega),b0]
  unfold kindOf
  by_cases h0:ls.length=0
  ·rw[if_pos h0,if_pos (hsm.2 h0)]
  ·rw[if_neg h0,if_neg (fun hs=>h0 (hsm.1 hs))]
 ·show nth _ (adr c h v)=0
  rw[Bh v (by omega),Bl v h8,b3 v h3 (by omega),Bz v h3 (by omega)]
 ·by_cases hs:(fZ h p d ls).f≤c.W-8
  ·have h0:=hsm.1 hs
   have hi':8+i<c.W:=by omega
   unfold fK aS
   rw[iE hs]
   show nth _ (adr c h (8+i))=0
   have hN0:nth Nm (adr c h (8+i))=nth Hd (adr c h (8+i)):=by
    rw[←eN]
    exact si c h ls Hd _ _ (fun j hj e=>by omega)
   rw[Bh _ hi',hN0,b3 _ (by omega) hi',Bz _ (by omega) hi']
  ·have hpl:=hObj.place hm hs hi
   have hpl':i/(c.W-1)<ls.length:=by simpa[fZ] using hpl
   have hg:(fZ h p d ls).lv[i/(c.W-1)]? =some (ls[i/(c.W-1)]+1):=by simp[fZ,hpl']
   unfold fK aS
   rw[iY hs hg]
   have:=Nat.mod_lt i (show 0<c.W-1 by omega)
   exact C1 _ _ (List.getElem_mem hpl') (by omega) (by omega)
 ·rw[hblk] at hi
  rw[A i hi,D3 i h3 hi]
theorem yL:∀(os:List Ob),(os.map Ob.h).Sublist (os.flatMap Ob.blocks)
 |[]=>by simp
 |x::t=>by
  rw[List.map_cons,List.flatMap_cons]
  unfold Ob.blocks
  exact(List.Sublist.trans (yL t) (List.sublist_append_right _ _)).cons_cons x.h
theorem ah.Nh{c:Cf}{zs:List Int}{pool:List Nat}{os:List Ob}(h:ah c zs pool os):(os.map Ob.h).Nodup:=h.nodupB.sublist (yL os)
theorem ah.split{c:Cf}{zs:List Int}{pool:List Nat}{os:List Ob}{o:Ob}(h:ah c zs pool os)(ho:o∈os):∃s t,os=s++o::t∧(∀x,x∈s→x.h≠o.h)∧(∀x,x∈t→x.h≠o.h):=by
 obtain⟨s,t,rfl⟩:=List.append_of_mem ho
 have hn:=h.Nh
 rw[List.map_append,List.map_cons,List.nodup_append] at hn
 obtain⟨n1,n2,n3⟩:=hn
 refine⟨s,t,rfl,fun x hx e=>n3 x.h (List.mem_map_of_mem hx) o.h (by simp) e,fun x hx e=>(List.nodup_cons.1 n2).1 (by rw[←e];exact List.mem_map_of_mem hx)⟩
theorem yM{os:List Ob}{f:Ob→Ob}(h:∀x,x∈os→f x=x):os.map f=os:=by
 induction os with
 |nil=>rfl
 |cons x t ih=>rw[List.map_cons,h x (by simp),ih (fun y hy=>h y (by simp[hy]))]
theorem qp{os:List Ob}{f:Ob→Bool}(h:∀x,x∈os→f x=true):os.filter f=os:=List.filter_eq_self.2 h
theorem DI{o:Ob}{j b:Nat}(hj:o.lv[j]? =some (b+1)):o.leaves.Perm (b::(mF o j).leaves):=by
 unfold Ob.leaves mF
 have hlt:j<o.lv.length:=(List.getElem?_eq_some_iff.1 hj).1
 have he:o.lv=o.lv.take j++(b+1)::o.lv.drop (j+1):=by
  have h1:=(List.take_append_drop j o.lv).symm
  rw[List.drop_eq_getElem_cons hlt] at h1
  rw[(List.getElem?_eq_some_iff.1 hj).2] at h1
  exact h1
 have hs:o.lv.set j 0=o.lv.take j++0::o.lv.drop (j+1):=List.set_eq_take_append_cons_drop▸by rw[if_pos hlt]
 show(o.lv.filterMap _).Perm (b::(o.lv.set j 0).filterMap _)
 rw[hs]
 conv=>lhs;rw[he]
 rw[List.filterMap_append,List.filterMap_append,List.filterMap_cons,List.filterMap_cons]
 simp only[Nat.add_eq_zero_iff,Nat.one_ne_zero,and_false,if_false,if_true,Nat.add_sub_cancel]
 exact List.perm_middle
theorem ah.Qi{c:Cf}{zs:List Int}{pool:List Nat}{os:List Ob}{o:Ob}{j b:Nat}(H:ah c zs pool os)(hm:c.May)(hz:zs.length=c.size)(ho:o∈os)(hj:o.lv[j]? =some (b+1)):
  ah c ((aU c b zs).set (adr c o.h (8+j)) 0) (b::pool) (sI os o j)∧∀i,¬i<3→i≠adr c o.h (8+j)→i≠adr c b 0→i≠adr c b 5→nth ((aU c b zs).set (adr c o.h (8+j)) 0) i=nth zs i:=by
 have hw:=hm.w
 have hA:=H.obs o ho
 have hlW:=hA.KW hm
 have hjl:j<o.lv.length:=(List.getElem?_eq_some_iff.1 hj).1
 have hbl:b∈o.leaves:=Ob.bA.2 (List.mem_of_getElem? hj)
 have hbb:b∈o.blocks:=by unfold Ob.blocks;exact List.mem_cons_of_mem _ hbl
 have hhb:o.h∈o.blocks:=by unfold Ob.blocks;simp
 have hne:o.h≠b:=fun e=>(List.nodup_cons.1 (H.ownB ho)).1 (by rw[e];exact hbl)
 have hbN:=H.lt ho hbb
 have hbp:=H.kH ho hbb
 have hzg:(aU c b zs).length=c.size:=by rw[sG,hz]
 have out:∀i,¬i<3→i≠adr c o.h (8+j)→i≠adr c b 0→i≠adr c b 5→nth ((aU c b zs).set (adr c o.h (8+j)) 0) i=nth zs i:=fun i h3 h1 h2 h5=>by
  rw[ai (fun e=>h1 e.symm),mo hm hz h2 h5 h3]
 have outA:∀x v,v<c.W→x≠b→(x≠o.h∨v≠8+j)→nth ((aU c b zs).set (adr c o.h (8+j)) 0) (adr c x v)=nth zs (adr c x v):=fun x v hv hx h1=>
  out _ (zD _ _ _) (fun e=>by
   have:=ax hv (by omega) e
   rcases h1 with h1|h1
   ·exact h1 this.1
   ·exact h1 this.2) (fun e=>hx (ax hv (by omega) e).1) (fun e=>hx (ax hv (by omega) e).1)
 obtain⟨s,t,hst,hs,ht⟩:=H.split ho
 have hos:sI os o j=s++mF o j::t:=by
  unfold sI
  rw[hst,List.map_append,List.map_cons,yM (fun x hx=>if_neg (hs x hx)),yM (fun x hx=>if_neg (ht x hx)),if_pos rfl]
 have old:∀x,x∈os→x.h≠o.h→iU c ((aU c b zs).set (adr c o.h (8+j)) 0) x:=fun x hx hxh=>by
  have hA':=H.obs x hx
  have hnb:∀y,y∈x.blocks→y≠b∧y≠o.h:=fun y hy=>⟨fun e=>hxh (by rw[H.own hx ho hy (by rw[e];exact hbb)]),fun e=>hxh (by rw[H.own hx ho hy (by rw[e];exact hhb)])⟩
  have hxm:x.h∈x.blocks:=by unfold Ob.blocks;simp
  have hl:=hA'.KW hm
  have g:∀y v,y∈x.blocks→v<c.W→_:=fun y v hy hv=>outA y v hv (hnb y hy).1 (.inl (hnb y hy).2)
  refine hA'.congr ?_ (g _ 1 hxm (by omega)) (g _ 2 hxm (by omega)) (fun k hk=>g _ (8+k) hxm (by omega)) (fun y hy=>g _ 0 (by unfold Ob.blocks;exact List.mem_cons_of_mem _ (Ob.bA.2 hy)) (by omega))
  rw[g _ 0 hxm (by omega)];exact⟨hA'.tok,rfl⟩
 have new:iU c ((aU c b zs).set (adr c o.h (8+j)) 0) (mF o j):=by
  have hset:∀y,y+1∈o.lv.set j 0→y+1∈o.lv∧y≠b:=fun y hy=>by
   obtain⟨k,hk,e⟩:=List.getElem_of_mem hy
   have hk':k<o.lv.length:=by simpa using hk
   rw[List.getElem_set] at e
   by_cases ekj:j=k
   ·rw[if_pos ekj] at e;omega
   ·rw[if_neg ekj] at e
    refine⟨by rw[←e];exact List.getElem_mem hk',fun eb=>ekj ?_⟩
    subst eb
    exact rX (List.nodup_cons.1 (H.ownB ho)).2 hj (List.getElem?_eq_some_iff.2 ⟨hk',e⟩)
  refine⟨hA.hlt,fun y hy=>hA.llt y (hset y hy).1,?_,?_,hA.size,by show(((o.lv.set j 0).length:Nat):Int)=_;rw[List.length_set];exact hA.lvs,?_,?_,fun k hk=> ?_,fun y hy=> ?_⟩
  ·show nth _ (adr c o.h 1)=_;rw[outA o.h 1 (by omega) hne (.inr (by omega))];exact hA.w1
  ·show nth _ (adr c o.h 2)=_;rw[outA o.h 2 (by omega) hne (.inr (by omega))];exact hA.w2
  ·show dB (nth _ (adr c o.h 0));rw[outA o.h 0 (by omega) hne (.inr (by omega))];exact hA.tok
  ·show uK (nth _ (adr c o.h 0))=_;rw[outA o.h 0 (by omega) hne (.inr (by omega))];exact hA.kind
  ·have hk':k<o.lv.length:=by simpa[mF] using hk
   show nth _ (adr c o.h (8+k))=(((o.lv.set j 0)[k]'(by simpa using hk'):Nat):Int)
   rw[List.getElem_set]
   by_cases e:j=k
   ·subst e
    rw[if_pos rfl,aN (by rw[hzg];exact fu hA.hlt (by omega))]
    rfl
   ·rw[if_neg e,outA o.h (8+k) (by omega) hne (.inr (by omega))]
    exact hA.own k hk'
  ·obtain⟨y1,y2⟩:=hset y hy
   have hyh:y≠o.h:=fun e=>(List.nodup_cons.1 (H.ownB ho)).1 (by rw[←e];exact Ob.bA.2 y1)
   show nth _ (adr c y 0)=_
   rw[outA y 0 (by omega) y2 (.inl hyh)]
   exact hA.leaf y y1
 refine⟨⟨?_,fun x hx=> ?_,?_⟩,out⟩
 ·refine(bK.give H.pl hm hz hbN hbp).1.only hm (b:=o.h) ?_ (bE.set (by omega) 0)
  intro hx
  rcases List.mem_cons.1 hx with e|hx
  ·exact hne e
  ·exact H.kH ho hhb hx
 ·rw[hos] at hx
  rcases List.mem_append.1 hx with hx|hx
  ·exact old x (by rw[hst];exact List.mem_append_left _ hx) (hs x hx)
  ·rcases List.mem_cons.1 hx with rfl|hx
   ·exact new
   ·exact old x (by rw[hst];exact List.mem_append_right _ (List.mem_cons_of_mem _ hx)) (ht x hx)
 ·have hp:=H.perm
  rw[hos]
  rw[hst] at hp
  refine List.Perm.trans ?_ hp
  rw[List.cons_append]
  refine List.Perm.trans List.perm_middle.symm ?_
  refine List.Perm.append_left pool ?_
  rw[List.flatMap_append,List.flatMap_append,List.flatMap_cons,List.flatMap_cons]
  refine List.Perm.trans List.perm_middle.symm ?_
  refine List.Perm.append_left _ ?_
  rw[←List.cons_append]
  refine List.Perm.append_right _ ?_
  show(b::o.h::(mF o j).leaves).Perm (o.h::o.leaves)
  exact(List.Perm.swap _ _ _).trans ((DI hj).symm.cons o.h)
theorem ah.ended{c:Cf}{zs:List Int}{pool:List Nat}{os:List Ob}{o:Ob}(H:ah c zs pool os)(hm:c.May)(hz:zs.length=c.size)(ho:o∈os)(hl:o.leaves=[]):
  ah c (aU c o.h zs) (o.h::pool) (os.filter (fun x=>x.h !=o.h))∧∀i,¬i<3→i≠adr c o.h 0→i≠adr c o.h 5→nth (aU c o.h zs) i=nth zs i:=by
 have hw:=hm.w
 have hhb:o.h∈o.blocks:=by unfold Ob.blocks;simp
 have hbN:=H.lt ho hhb
 have hbp:=H.kH ho hhb
 obtain⟨s,t,hst,hs,ht⟩:=H.split ho
 have hos:os.filter (fun x=>x.h !=o.h)=s++t:=by
  rw[hst,List.filter_append,List.filter_cons,qp (fun x hx=>by simpa using hs x hx),qp (fun x hx=>by simpa using ht x hx)]
  simp
 refine⟨⟨(bK.give H.pl hm hz hbN hbp).1,fun x hx=> ?_,?_⟩,fun i h3 h0 h5=>mo hm hz h0 h5 h3⟩
 ·obtain⟨hxo,hxh⟩:=List.mem_filter.1 hx
  have hxh:x.h≠o.h:=by simpa using hxh
  have hA':=H.obs x hxo
  have hnb:∀y,y∈x.blocks→y≠o.h:=fun y hy e=>hxh (by rw[H.own hxo ho hy (by rw[e];exact hhb)])
  have hxm:x.h∈x.blocks:=by unfold Ob.blocks;simp
  have hl:=hA'.KW hm
  have g:∀y v,y∈x.blocks→v<c.W→nth (aU c o.h zs) (adr c y v)=nth zs (adr c y v):=fun y v hy hv=>mo hm hz (fun e=>hnb y hy (ax hv (by omega) e).1) (fun e=>hnb y hy (ax hv (by omega) e).1) (zD _ _ _)
  refine hA'.congr ?_ (g _ 1 hxm (by omega)) (g _ 2 hxm (by omega)) (fun k hk=>g _ (8+k) hxm (by omega)) (fun y hy=>g _ 0 (by unfold Ob.blocks;exact List.mem_cons_of_mem _ (Ob.bA.2 hy)) (by omega))
  rw[g _ 0 hxm (by omega)];exact⟨hA'.tok,rfl⟩
 ·have hp:=H.perm
  rw[hos]
  rw[hst] at hp
  refine List.Perm.trans ?_ hp
  rw[List.cons_append]
  refine List.Perm.trans List.perm_middle.symm ?_
  refine List.Perm.append_left pool ?_
  rw[List.flatMap_append,List.flatMap_append,List.flatMap_cons]
  refine List.Perm.trans List.perm_middle.symm ?_
  refine List.Perm.append_left _ ?_
  have e:o.blocks=[o.h]:=by unfold Ob.blocks;rw[hl]
  rw[e]
  exact List.Perm.refl _
def JI(c:Cf)(zs:List Int)(k:Int):Prop:=¬(k=0∨k=1)∨∃j:Nat,k=(j:Int)∧j<2∧aR c zs j []
theorem rM(p:Pl)(c:Cf)(s:St)(b:Int)(w:World)(hG:G w p c s):
  Calls Tryz.prog 201 #[.pointer (some ⟨p.a,0,none⟩),.int .i64 b] w fun e w'=>e=.returned (.bool (jG b c.N))∧Below w.heap.size w w':=by
 have HG:=hid hG
 have hfd:=bW (c.N:Int) (c.W:Int) (c.R:Int) (c.K:Int)
 clear hG
 by_cases h:0≤b
 ·have E:Hid (decide (b<(c.N:Int))=jG b c.N):=hid (by unfold jG;simp[h])
  go_enter Tryz.func201,Tryz.ntmps201
  go_wp2_with fail
  refine(cZ p c s _ HG.out).mono ?_
  rintro e w1 ⟨rfl,hb⟩
  have HB:=hid hb
  clear hb
  go_wp2_with fail
  go_ret
  exact⟨aH E.out,HB.out⟩
 ·have E:Hid (jG b c.N=false):=hid (by unfold jG;simp[h])
  have h':b<0:=by omega
  go_enter Tryz.func201,Tryz.ntmps201
  go_wp2_with fail
  go_ret
  exact⟨aH E.out.symm,Below.refl _ _⟩
theorem lW(p:Pl)(k:Nat)(w:World)(hk:k<2):
  Calls Tryz.prog 156 #[.pointer (some ⟨p.a,0,none⟩),.int .i64 (k:Int)] w fun e w'=>e=.returned (.tuple #[.int .i64 ((3*k:Nat):Int),.bool true])∧w=w':=by
 have hk2:k=0∨k=1:=by omega
 rcases hk2 with rfl|rfl
 all_goals
  go_enter Tryz.func156,Tryz.ntmps156
  go_wp2_with fail
  go_ret2
  exact⟨rfl,rfl⟩
theorem ED(p:Pl)(k:Int)(w:World)(hk:¬(k=0∨k=1)):
  Calls Tryz.prog 156 #[.pointer (some ⟨p.a,0,none⟩),.int .i64 k] w fun e w'=>e=.returned (.tuple #[.int .i64 0,.bool false])∧w=w':=by
 by_cases h:0≤k
 ·have h2:2≤k:=by omega
  clear hk
  go_enter Tryz.func156,Tryz.ntmps156
  go_wp2_with fail
  go_ret2
  exact⟨rfl,rfl⟩
 ·have h2:k<0:=by omega
  clear hk h
  go_enter Tryz.func156,Tryz.ntmps156
  go_wp2_with fail
  go_ret2
  exact⟨rfl,rfl⟩
theorem Ke(p:Pl)(c:Cf)(s:St)(b:Nat)(x:Int)(w:World)(hG:G w p c s)(hb:b<c.N)(hx:x=(b:Int)+1):
  Calls Tryz.prog 163 #[.pointer (some ⟨p.a,0,none⟩),.int .i64 x] w fun e w'=>e=.returned (.tuple #[.int .i64 (b:Int),.bool true])∧Below w.heap.size w w':=by
 subst hx
 have HG:=hid hG
 have hN:=hG.may.n
 have E:=hid (iX hb)
 have e1:IntKind.i64.wrap ((b:Int)+1-1)=(b:Int):=by rw[Int.add_sub_cancel];exact IntWalk.i64_in _ (by omega)
 clear hG
 go_enter Tryz.func163,Tryz.ntmps163
 go_wp2_with fail
 refine(rM p c s _ _ HG.out).mono ?_
 rw[E.out]
 rintro e w1 ⟨rfl,hb1⟩
 have HB:=hid hb1
 clear hb1
 go_wp2_with fail
 go_ret2
 exact⟨rfl,HB.out⟩
theorem Im(p:Pl)(c:Cf)(s:St)(w:World)(hG:G w p c s):
  Calls Tryz.prog 163 #[.pointer (some ⟨p.a,0,none⟩),.int .i64 0] w fun e w'=>e=.returned (.tuple #[.int .i64 0,.bool false])∧Below w.heap.size w w':=by
 have HG:=hid hG
 clear hG
 have E:Hid (jG (-1) c.N=false):=hid (by unfold jG;simp)
 go_enter Tryz.func163,Tryz.ntmps163
 go_wp2_with fail
 refine(rM p c s (-1) _ HG.out).mono ?_
 rw[E.out]
 rintro e w1 ⟨rfl,hb1⟩
 have HB:=hid hb1
 clear hb1
 go_wp2_with fail
 go_ret2
 exact⟨rfl,HB.out⟩
theorem BL(p:Pl)(c:Cf)(s:St)(k b:Nat)(l:List Nat)(w:World)(hG:G w p c s)(hC:aR c s.zs k (b::l))(hk:k<2):
  Calls Tryz.prog 92 #[.pointer (some ⟨p.a,0,none⟩),.int .i64 (k:Int)] w (GP w p c s.got (.tuple #[.int .i64 (b:Int),.bool true])):=by
 have HG:=hid hG
 have H0:=hid (hC.r0.trans (show jU (b::l)=(b:Int)+1 from rfl))
 have hb:=hC.lt b (by simp)
 have HR:=hid (lW p k w hk)
 have e1:IntKind.i64.wrap (((3*k:Nat):Int)+0)=((3*k:Nat):Int):=by rw[Int.add_zero];exact IntWalk.i64_in _ (by omega)
 clear hG hC
 go_enter Tryz.func92,Tryz.ntmps92
 go_wp2_with fail
 refine HR.out.mono ?_
 rintro e w1 ⟨rfl,rfl⟩
 go_wp2_with fail
 refine(gQ p c s (3*k) _ _ _ HG.out (by omega) (by first|rfl|exact e1) H0.out).mono ?_
 rintro e w1 ⟨rfl,hG1,hT1⟩
 have HG1:=hid hG1
 have HT1:=hid hT1
 clear hG1 hT1
 go_wp2_with fail
 refine(Ke p c s.got b _ _ HG1.out hb rfl).mono ?_
 rintro e w2 ⟨rfl,hb2⟩
 have HG2:=hid (HG1.out.later hb2)
 have HT2:=hid (HT1.out.trans (Touch.of_below hb2))
 clear hb2
 go_wp2_with fail
 go_ret2
 exact⟨rfl,HG2.out,HT2.out⟩
end Go.Proofs.YtjmifnljckmimaaGreat.Pk
