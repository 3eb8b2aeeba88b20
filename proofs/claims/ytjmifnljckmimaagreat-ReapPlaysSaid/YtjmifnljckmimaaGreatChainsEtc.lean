/-
  Texts laid together: Chains, LawKit, Obj, Wld, CountMath, HeapRing, RepW, Ring, Pool, ObjLaw, ObjApartF, MakeMath, Chain, ChainFn.
-/
import Derived.Test.YtjmifnljckmimaaGreatRefChainEtc
import Derived.Test.YtjmifnljckmimaaGreatGroFnEtc
import Derived.BigQuiet
import Derived.Test.YtjmifnljckmimaaGreatBaseEtc
import Derived.Test.YtjmifnljckmimaaGreatObjMathEtc
namespace Go.Proofs.YtjmifnljckmimaaGreat.Pk
open Lib (hid)
open Go.RowKit
set_option linter.unusedVariables false
set_option linter.unusedSimpArgs false
def ints(l:List Nat):List Int:=l.map (fun n:Nat=>(n:Int))
theorem aC(l:List Nat):(ints l).length=l.length:=by simp[ints]
theorem kz{l:List Nat}{i:Nat}(h:i<l.length):nth (ints l) i=(l[i]:Int):=by unfold nth ints;simp[List.getD,h]
def fA(l:List Nat)(w:World)(e:Ending)(w':World):Prop:=
 ∃a cap,e=.returned (.slice a l.length cap)∧Row w' .i64 a (ints l)∧(∀b off,a=some ⟨b,off,none⟩→w.heap.size≤b)∧Below w.heap.size w w'
def cfR(n:Nat):Cf:=⟨n,16,1,1⟩
theorem QK{n:Nat}(h0:1≤n)(h1:n≤1000):(cfR n).May:=by constructor<;>simp[cfR]<;>omega
theorem PN(p:Pl)(c:Cf)(s:St)(b v:Nat)(x z y:Int)(w:World)(hG:G w p c s)(hb:b<c.N)(hv:v<c.W)(hx:x=(b:Int))(hz:z=(v:Int))(hy:nth s.zs (ai c b v)=y):
  Calls Tryz.prog 81 #[.pointer (some ⟨p.a,0,none⟩),.int .i64 x,.int .i64 z] w fun e w'=>e=.returned (.int .u32 y)∧Below w.heap.size w w':=
 (qo p c s b v x z y w hG hb hv hx hz hy).mono fun e w' h=>⟨h.1,h.2.new⟩
theorem Qe(m d:Nat)(h:d≤1000000):IntKind.u64.wrap (ma (m+d)-ma m)=(d:Int):=by
 rw[IntKind.wrap_u64];unfold ma;omega
theorem dQ.Md{w w':World}{l:List Nat}{zs:List Int}{e:Ending}(h:dQ w zs e w')(hz:zs=Pk.ints l):fA l w e w':=by
 subst hz
 obtain⟨a,cap,h1,h2,h3,h4⟩:=h
 rw[aC] at h1
 exact⟨a,cap,h1,h2,h3,h4⟩
theorem Un(a:Option Addr)(cap:Nat)(l:List Nat)(b:Int)(w:World)(hr:Row w .i64 a (ints l))(hl:l.length≤9000):
  Calls Tryz.prog 169 #[.slice a l.length cap,.int .i64 b] w fun e w'=>e=.returned (.bool (hasB (ints l) b))∧w=w':=by
 have:=Mo a cap (ints l) b w hr (by rw[aC];unfold maxLen;omega)
 rw[aC] at this
 exact this
theorem oD(a:Option Addr)(cap:Nat)(l:List Nat)(b:Nat)(w:World)(hr:Row w .i64 a (ints l))(hl:l.length≤9000):
  Calls Tryz.prog 116 #[.slice a l.length cap,.int .i64 (b:Int)] w (fA (l++[b]) w):=by
 have:=CF a cap (ints l) (b:Int) w hr (by rw[aC];omega)
 rw[aC] at this
 exact this.mono (fun e w' h=>h.Md (by simp[ints]))
theorem SQ(a:Option Addr)(cap:Nat)(b:Nat)(l:List Nat)(w:World)(hr:Row w .i64 a (ints (b::l)))(hl:(b::l).length≤9000):
  Calls Tryz.prog 106 #[.slice a (b::l).length cap] w (fA l w):=by
 have:=Jk a cap (ints (b::l)) w hr (by rw[aC];omega) (by rw[aC];simp)
 rw[aC] at this
 exact this.mono (fun e w' h=>h.Md (by simp[ints]))
theorem Pp(a:Option Addr)(cap:Nat)(l:List Nat)(b:Nat)(w:World)(hr:Row w .i64 a (ints l))(hl:l.length≤9000):
  Calls Tryz.prog 171 #[.slice a l.length cap,.int .i64 (b:Int)] w (fA (b::l) w):=by
 have:=FO a cap (ints l) (b:Int) w hr (by rw[aC];omega)
 rw[aC] at this
 exact this.mono (fun e w' h=>h.Md rfl)
def eT(os:List Ob)(r:Int):Option Ob:=os.find? (fun o=>decide ((o.h:Int)+1=r))
theorem nA{os:List Ob}{r:Int}{o:Ob}(h:eT os r=some o):o∈os∧(o.h:Int)+1=r:=
 ⟨List.mem_of_find?_eq_some h,by have:=List.find?_some h;simpa using this⟩
theorem AJ{os:List Ob}{r:Int}(h:eT os r=none):∀o,o∈os→(o.h:Int)+1≠r:=by
 intro o ho e
 have:=(List.find?_eq_none.1 h) o ho
 simp at this
 exact this e
theorem aj.eT{c:Cf}{zs:List Int}{pool:List Nat}{os:List Ob}(h:aj c zs pool os){o:Ob}(ho:o∈os):eT os ((o.h:Int)+1)=some o:=by
 cases hc:Pk.eT os ((o.h:Int)+1) with
 |none=>exact absurd rfl (AJ hc o ho)
 |some o'=>
  obtain⟨h1,h2⟩:=nA hc
  have:o'.h=o.h:=by omega
  rw[h.own h1 ho (b:=o'.h) (by unfold Ob.blocks;simp) (by rw[this];unfold Ob.blocks;simp)]
def In64(r:Int):Prop:= -9223372036854775808≤r∧r≤9223372036854775807
instance (r:Int):Decidable (In64 r):=by unfold In64;infer_instance
theorem VC{c:Cf}(hm:c.May){h:Nat}(hh:h<c.N):In64 ((h:Int)+1):=by
 have:=hm.n
 unfold In64;omega
theorem aj.EI{c:Cf}{zs:List Int}{pool:List Nat}{os:List Ob}(h:aj c zs pool os)(hm:c.May){o:Ob}(ho:o∈os):In64 ((o.h:Int)+1):=
 VC hm (h.lt ho (b:=o.h) (by unfold Ob.blocks;simp))
def ru(c:Cf)(os:List Ob)(r i:Int):Int:=match eT os r with|none=>8|some o=>if kR i o.np&&(bg c o i.toNat).isSome then 0 else 7
def ry(c:Cf)(zs:List Int)(os:List Ob)(r i:Int):Int:=match eT os r with|none=>0|some o=>if kR i o.np then iw c zs o i.toNat else 0
def kM(c:Cf)(zs:List Int)(o:Ob):List Int:=(List.range o.np).map (fun i=>iw c zs o i)
def gL(c:Cf)(zs:List Int)(o:Ob):List Int:=(List.range o.nd).map (fun i=>iw c zs o (o.np+i))
theorem gy(c:Cf)(zs:List Int)(o:Ob):(kM c zs o).length=o.np:=by simp[kM]
theorem kS(c:Cf)(zs:List Int)(o:Ob):(gL c zs o).length=o.nd:=by simp[gL]
def Tf(c:Cf)(zs:List Int)(o:Ob)(w:World)(e:Ending)(w':World):Prop:=
 ∃a1 c1 a2 c2,e=.returned (.tuple #[.agg #[.slice a1 o.np c1,.slice a2 o.nd c2],.bool true])∧dZ w' .i64 a1 (kM c zs o)∧dZ w' .u32 a2 (gL c zs o)∧(∀b off,a1=some ⟨b,off,none⟩→w.heap.size≤b)∧(∀b off,a2=some ⟨b,off,none⟩→w.heap.size≤b)∧
  (∀b off b' off',a1=some ⟨b,off,none⟩→a2=some ⟨b',off',none⟩→b≠b')∧Below w.heap.size w w'∧(∀b off,a1=some ⟨b,off,none⟩→b<w'.heap.size)∧∀b off,a2=some ⟨b,off,none⟩→b<w'.heap.size
def iA(h np nd:Nat)(ls:List Nat):Ob:=⟨h,np,nd,ls.map (· +1)⟩
structure Bq (c:Cf) (zs zs':List Int) (pool:List Nat) (os:List Ob) (o:Ob):Prop where
 heap:aj c zs' pool (os++[o])
 tag:nth zs' (ai c o.h 0)=if o.f≤c.W-8 then 1 else 2
 own:∀v,3≤v→v<8→nth zs' (ai c o.h v)=0
 wM:∀i,i<o.f→iw c zs' o i=0
 out:∀i,¬i<3→(∀b,b∈o.blocks→¬jN c b i)→nth zs' i=nth zs i
def oI(o:Ob)(j:Nat):Ob:={o with lv:=o.lv.set j 0}
def vk(os:List Ob)(o:Ob)(j:Nat):List Ob:=os.map (fun x=>if x.h=o.h then oI x j else x)
structure Nk:Prop where
 make_size:∀(c:Cf) (zs:List Int) (p d:Int),Wz c zs→bF c.W p d≠0→∃B,jk c 68 [.int .i64 p,.int .i64 d] zs B zs (.tuple #[.int .i64 0,.int .i64 (bF c.W p d)])
 make_full:∀(c:Cf) (zs:List Int) (pool:List Nat) (os:List Ob) (p d:Int),Wz c zs→aj c zs pool os→bF c.W p d=0→(pool.length:Int)<aZ c.W p d→∃B,jk c 68 [.int .i64 p,.int .i64 d] zs B zs (.tuple #[.int .i64 0,.int .i64 4])
 make_yes:∀(c:Cf) (zs:List Int) (h:Nat) (ls pool:List Nat) (os:List Ob) (p d:Nat),Wz c zs→aj c zs (h::ls++pool) os→bF c.W p d=0→(1+ls.length:Int)=aZ c.W p d→
  ∃B zs',jk c 68 [.int .i64 (p:Int),.int .i64 (d:Int)] zs B zs' (.tuple #[.int .i64 ((h:Int)+1),.int .i64 0])∧Bq c zs zs' pool os (iA h p d ls)
 is_:∀(c:Cf) (zs:List Int) (pool:List Nat) (os:List Ob) (r:Int),Wz c zs→aj c zs pool os→In64 r→jk c 49 [.int .i64 r] zs 12 zs (.bool (eT os r).isSome)
 jC:∀(c:Cf) (zs:List Int) (pool:List Nat) (os:List Ob) (r:Int) (o:Ob),Wz c zs→aj c zs pool os→eT os r=some o→jk c 110 [.int .i64 r] zs 12 zs (.tuple #[.int .i64 (o.np:Int),.int .i64 (o.nd:Int),.int .i64 0])
 sV:∀(c:Cf) (zs:List Int) (pool:List Nat) (os:List Ob) (r:Int),Wz c zs→aj c zs pool os→In64 r→eT os r=none→jk c 110 [.int .i64 r] zs 12 zs (.tuple #[.int .i64 0,.int .i64 0,.int .i64 8])
 ptr:∀(c:Cf) (zs:List Int) (pool:List Nat) (os:List Ob) (r i:Int),Wz c zs→aj c zs pool os→In64 r→jk c 70 [.int .i64 r,.int .i64 i] zs 12 zs (.tuple #[.int .i64 (ry c zs os r i),.int .i64 (ru c os r i)])
 setptr_yes:∀(c:Cf) (zs:List Int) (pool:List Nat) (os:List Ob) (o:Ob) (i a:Nat) (x:Int),Wz c zs→aj c zs pool os→o∈os→i<o.np→bg c o i=some a→0≤x→x≤(c.N:Int)→jk c 71 [.int .i64 ((o.h:Int)+1),.int .i64 (i:Int),.int .i64 x] zs 12 (zs.set a x) (.int .i64 0)
 see_yes:∀(c:Cf) (zs:List Int) (pool:List Nat) (os:List Ob) (o:Ob),Wz c zs→aj c zs pool os→o∈os→Looks c 23 [.int .i64 ((o.h:Int)+1)] zs (Tf c zs o)
structure cz where
 refs:Int
 color:Int
 count:Int
 shade:Int
 shadow:Int
 dead:Bool
 left:Int
 leaves:Int
def cz.new:cz:=⟨0,0,0,0,0,false,0,0⟩
structure Th where
 h:Nat
 lv:List Int
 pt:List Int
 dt:List Int
 ended : Bool
 mr:cz
structure Wd where
 n:Nat
 w:Nat
 clean:List Nat
 ts:List Th
 parity:Int
 phase:Int
 cursor:Int
 field:Int
 scan:Int
 scanF:Int
 suspect:Int
 units:Int
 epochs:Int
 ring:List Nat
 grave:List Nat
 pending:Int
def Wd.new(n w:Nat):Wd:=⟨n,w,List.range n,[],0,0,0,0,0,0,0,0,0,[],[],0⟩
def Th.at(t:Th)(r:Int):Bool:= !t.ended&&decide ((t.h:Int)+1=r)
def xG(r:Int):List Th→Option Nat
 |[]=>none
 |t::l=>if t.at r then some 0 else(xG r l).map (· +1)
def Wd.ix(D:Wd)(r:Int):Option Nat:=xG r D.ts
def bE(r:Int):List Th→Option Th
 |[]=>none
 |t::l=>if t.at r then some t else bE r l
def Wd.find(D:Wd)(r:Int):Option Th:=bE r D.ts
def bJ(r:Int)(f:Th→Th):List Th→List Th
 |[]=>[]
 |t::l=>if t.at r then f t::l else t::bJ r f l
def Wd.upd(D:Wd)(r:Int)(f:Th→Th):Wd:={D with ts:=bJ r f D.ts}
def Wd.mark(D:Wd)(r:Int)(f:cz→cz):Wd:=D.upd r (fun t=>{t with mr:=f t.mr})
theorem xH{r:Int}:∀{l:List Th},xG r l=none↔∀t,t∈l→t.at r=false
 |[]=>by simp[xG]
 |t::l=>by
  unfold xG
  cases h:t.at r with
  |true=>simp[h]
  |false=>simp[h,xH (l:=l)]
theorem lN{r:Int}:∀{l:List Th} {i:Nat},xG r l=some i→∃t,l[i]? =some t∧t.at r=true∧∀(j:Nat) (u:Th),j<i→l[j]? =some u→u.at r=false
 |[],i,h=>by simp[xG] at h
 |t::l,i,h=>by
  unfold xG at h
  cases ht:t.at r with
  |true=>
   simp[ht] at h
   subst h
   exact⟨t,rfl,ht,fun j u hj=>absurd hj (by omega)⟩
  |false=>
   simp[ht] at h
   obtain⟨k,hk,rfl⟩:=h
   obtain⟨u,h1,h2,h3⟩:=lN hk
   refine⟨u,by simpa using h1,h2,fun j v hj hv=> ?_⟩
   cases j with
   |zero=>simp at hv;subst hv;exact ht
   |succ j=>exact h3 j v (by omega) (by simpa using hv)
theorem xI{r:Int}:∀{l:List Th} {i:Nat} {t:Th},l[i]? =some t→t.at r=true→(∀(j:Nat) (u:Th),j<i→l[j]? =some u→u.at r=false)→xG r l=some i
 |[],i,t,h,_,_=>by simp at h
 |u::l,0,t,h,ht,_=>by simp at h;subst h;unfold xG;rw[if_pos ht]
 |u::l,i+1,t,h,ht,hn=>by
  unfold xG
  rw[if_neg (by rw[hn 0 u (by omega) rfl];simp),xI (l:=l) (i:=i) (by simpa using h) ht (fun j v hj hv=>hn (j+1) v (by omega) (by simpa using hv))]
  rfl
theorem BI{r:Int}:∀{l:List Th},bE r l=(xG r l).bind (fun i=>l[i]?)
 |[]=>rfl
 |t::l=>by
  unfold bE xG
  cases h:t.at r with
  |true=>simp
  |false=>
   simp[BI (l:=l)]
   cases xG r l<;>simp
theorem yM{r:Int}{f:Th→Th}:∀{l:List Th} {i:Nat} {t:Th},xG r l=some i→l[i]? =some t→bJ r f l=l.set i (f t)
 |[],i,t,h,_=>by simp[xG] at h
 |u::l,i,t,h,ht=>by
  unfold xG at h
  unfold bJ
  cases hu:u.at r with
  |true=>
   simp[hu] at h
   subst h
   simp at ht
   subst ht
   simp
  |false=>
   simp[hu] at h
   obtain⟨k,hk,rfl⟩:=h
   simp
   exact yM hk (by simpa using ht)
theorem yN{r:Int}{f:Th→Th}:∀{l:List Th},xG r l=none→bJ r f l=l
 |[],_=>rfl
 |u::l,h=>by
  unfold xG at h
  unfold bJ
  cases hu:u.at r with
  |true=>simp[hu] at h
  |false=>
   simp[hu] at h
   simp
   exact yN h
theorem lg{r:Int}{l:List Th}{t:Th}(h:bE r l=some t):∃i,xG r l=some i∧l[i]? =some t:=by
 rw[BI] at h
 cases hi:xG r l with
 |none=>rw[hi] at h;cases h
 |some i=>rw[hi] at h;exact⟨i,rfl,h⟩
theorem Ak{r:Int}{l:List Th}(h:bE r l=none):xG r l=none:=by
 rw[BI] at h
 cases hi:xG r l with
 |none=>rfl
 |some i=>
  rw[hi] at h
  obtain⟨t,ht,_⟩:=lN hi
  simp[ht] at h
theorem df{r:Int}{l:List Th}{t:Th}(h:bE r l=some t):t∈l∧t.ended=false∧(t.h:Int)+1=r:=by
 obtain⟨i,hi,ht⟩:=lg h
 obtain⟨u,hu,ha,_⟩:=lN hi
 rw[ht] at hu
 cases hu
 unfold Th.at at ha
 simp at ha
 exact⟨List.mem_of_getElem? ht,ha.1,ha.2⟩
theorem dJ{D:Wd}{r:Int}(f:cz→cz)(h:D.find r=none):D.mark r f=D:=by
 unfold Wd.mark Wd.upd
 rw[yN (Ak h)]
section
variable (D:Wd) (r:Int)
def Wd.cnt:Int:=match D.find r with|none=>0|some t=>t.mr.refs
def Wd.dead:Bool:=match D.find r with|none=>false|some t=>t.mr.dead
def Wd.fB:Bool:=match D.find r with|none=>false|some t=>decide (t.mr.color=D.parity)
def Wd.fE:Int:=match D.find r with|none=>0|some t=>if t.mr.shade=D.parity then t.mr.shadow else 0
def Wd.counted(i:Int):Bool:=match D.find r with|none=>false|some t=>decide (0≤i)&&(decide (t.mr.count=D.parity)||(decide (D.phase=1)&&decide (D.cursor=r-1)&&decide (i<D.field)))
def Wd.begin(ph:Int):Wd:={D with phase:=ph,cursor:=0,field:=0,scan:=0,scanF:=0}
def phB(ph:Int):Bool:=decide (0≤ph∧ph≤3)
def Wd.pM(ph:Int):Wd:=if phB ph then D.begin ph else D
def OM(c f:Int):Bool:=decide ((0≤c∧c≤4294967295)∧0≤f∧f≤4294967295)
def Wd.move(c f:Int):Wd:={D with cursor:=c,field:=f}
def Wd.Az(c f:Int):Wd:=if OM c f then D.move c f else D
def Wd.turn:Wd:={D with parity:=1-D.parity}
def Wd.nQ:Wd:=D.mark r (fun m=>{m with color:=D.parity,count:=D.parity,shade:=D.parity,shadow:=0})
def Wd.cO:Wd:=D.mark r (fun m=>{m with color:=D.parity})
def Wd.kill:Wd:=D.mark r (fun m=>{m with dead:=true})
def Wd.done:Wd:=D.mark r (fun m=>{m with count:=D.parity})
def Wd.aU:Bool:=match D.find r with|none=>false|some t=> !decide (D.phase=0)&& !t.mr.dead&& !decide (t.mr.color=D.parity)
def Wd.touch:Wd:=if D.aU r then {D.cO r with ring:=if hasB (ints D.ring) (r-1) then D.ring else D.ring++[(r-1).toNat]} else D
def Wd.fG:Wd:=D.mark r (fun m=>{m with shade:=D.parity,shadow:=D.fE r+1})
def Wd.lighter:Bool:=(decide (D.phase=1)||decide (D.phase=2))&& !D.fB r&& !decide (D.fE r=0)
def Wd.aI:Wd:=if D.lighter r then D.mark r (fun m=>{m with shadow:=m.shadow-1}) else D
def Wd.up:Wd:=D.mark r (fun m=>{m with refs:=m.refs+1})
def Wd.down:Wd:=D.mark r (fun m=>{m with refs:=m.refs-1})
end
section
variable {c:Cf} {zs:List Int} {o o':Ob} {pool:List Nat} {os:List Ob}
theorem Ob.iy(o:Ob):o.h∈o.blocks:=by unfold Ob.blocks;simp
theorem aj.Ep(h:aj c zs pool os)(hm:c.May)(ho:o∈os)(ho':o'∈os){i a v:Nat}(hi:i<o'.f)(ha:bg c o' i=some a)(hv:v<8):a≠ai c o.h v:=by
 have hw:=hm.w
 unfold bg at ha
 cases hp:bH c o' i with
 |none=>rw[hp] at ha;cases ha
 |some q=>
  rw[hp] at ha
  simp at ha
  obtain⟨q1,q2,q3⟩:=gF hm hi hp
  intro e
  rw[←ha] at e
  obtain⟨e1,e2⟩:=aH q2 (by omega) e
  have hmem:=gD hp
  rw[e1] at hmem
  obtain rfl:=h.own ho ho' o.iy hmem
  by_cases hs:o.f≤c.W-8
  ·have:=q3 e1 hs
   omega
  ·unfold bH at hp
   rw[if_neg hs] at hp
   split at hp
   ·rename_i b hb
    cases hp
    simp at e1
    exact(List.nodup_cons.1 (h.ownB ho)).1 (by rw[←e1];exact Ob.bQ.2 (List.mem_of_getElem? hb))
   ·cases hp
end
structure Nf:Prop where
 up_yes:∀(c:Cf) (zs:List Int) (pool:List Nat) (os:List Ob) (o:Ob),Wz c zs→aj c zs pool os→o∈os→nth zs (ai c o.h 3)<4294967295→jk c 72 [.int .i64 ((o.h:Int)+1)] zs 8 (zs.set (ai c o.h 3) (nth zs (ai c o.h 3)+1)) (.tuple #[.int .i64 (nth zs (ai c o.h 3)+1),.bool true])
 down_zero:∀(c:Cf) (zs:List Int) (pool:List Nat) (os:List Ob) (o:Ob),Wz c zs→aj c zs pool os→o∈os→nth zs (ai c o.h 3)=0→jk c 111 [.int .i64 ((o.h:Int)+1)] zs 8 zs (.tuple #[.int .i64 0,.bool false])
 down_no:∀(c:Cf) (zs:List Int) (pool:List Nat) (os:List Ob) (r:Int),Wz c zs→aj c zs pool os→In64 r→eT os r=none→jk c 111 [.int .i64 r] zs 8 zs (.tuple #[.int .i64 0,.bool false])
 see_yes:∀(c:Cf) (zs:List Int) (pool:List Nat) (os:List Ob) (o:Ob),Wz c zs→aj c zs pool os→o∈os→Looks c 67 [.int .i64 ((o.h:Int)+1)] zs (fun w e w'=>e=.returned (.int .i64 (nth zs (ai c o.h 3)))∧Below w.heap.size w w')
 see_no:∀(c:Cf) (zs:List Int) (pool:List Nat) (os:List Ob) (r:Int),Wz c zs→aj c zs pool os→In64 r→eT os r=none→Looks c 67 [.int .i64 r] zs (fun w e w'=>e=.returned (.int .i64 0)∧Below w.heap.size w w')
structure qy (c:Cf) (zs zs':List Int) (os:List Ob):Prop where
 len:zs'.length=zs.length
 out:∀i,(i<3∨24≤i)→(∀o,o∈os→∀v,v<8→v≠1→v≠2→i≠ai c o.h v)→nth zs' i=nth zs i
 tag:∀o,o∈os→ek (nth zs' (ai c o.h 0))∧uK (nth zs' (ai c o.h 0))=uK (nth zs (ai c o.h 0))
theorem aP(c:Cf)(b v:Nat):24≤ai c b v:=by unfold ai;omega
section
variable {c:Cf} {zs zs':List Int} {o:Ob} {pool l:List Nat} {os:List Ob}
theorem aj.heads(h:aj c zs pool os)(hm:c.May)(k:qy c zs zs' os):aj c zs' pool os∧∀o' i,o'∈os→i<o'.f→iw c zs' o' i=iw c zs o' i:=by
 have hw:=hm.w
 have hb:∀b u,u<c.W→(∀o,o∈os→b≠o.h)→nth zs' (ai c b u)=nth zs (ai c b u):=fun b u hu hn=>k.out _ (.inr (aP c b u)) (fun o ho v hv _ _ e=>hn o ho (aH hu (by omega) e).1)
 have hp:∀b,b∈pool→∀o,o∈os→b≠o.h:=fun b hb o ho e=>h.mJ ho o.iy (e▸hb)
 have hl:∀o b,o∈os→b+1∈o.lv→∀o',o'∈os→b≠o'.h:=fun o b ho hb o' ho' e=>by
  have hb':b∈o.blocks:=by unfold Ob.blocks;exact List.mem_cons_of_mem _ (Ob.bQ.2 hb)
  obtain rfl:=h.own ho ho' hb' (by rw[e];exact o'.iy)
  exact(List.nodup_cons.1 (h.ownB ho)).1 (by rw[←e];exact Ob.bQ.2 hb)
 have hh:∀o,o∈os→∀u,u<c.W→(u=1∨u=2∨8≤u)→nth zs' (ai c o.h u)=nth zs (ai c o.h u):=fun o ho u hu h3=>k.out _ (.inr (aP c _ u)) (fun o' ho' v hv h1 h2 e=>by
  have:=(aH hu (by omega) e).2
  omega)
 have hreg:∀r,r<3→nth zs' r=nth zs r:=fun r hr=>k.out r (.inl hr) (fun o ho v _ _ _ e=>by have:=aP c o.h v;omega)
 refine⟨⟨⟨h.pl.ch.congr (hreg _ (by omega)) (hreg _ (by omega)) (hreg _ (by omega)) (fun b hb'=>by rw[iI];exact hb b 5 (by omega) (hp b hb')),fun b hb'=>by rw[hb b 0 (by omega) (hp b hb')];exact h.pl.fr b hb'⟩,fun o ho=> ?_,h.perm⟩,fun o i ho hi=> ?_⟩
 ·exact(h.bZ o ho).congr (k.tag o ho) (hh o ho 1 (by omega) (by omega)) (hh o ho 2 (by omega) (by omega)) (fun j hj=>hh o ho (8+j) (by have:=(h.bZ o ho).OA hm;omega) (by omega)) (fun b hb'=>hb b 0 (by omega) (hl o b ho hb'))
 ·unfold iw
  cases hf:bg c o i with
  |none=>rfl
  |some a=>
   have ha:24≤a:=by
    unfold bg at hf
    cases hq:bH c o i with
    |none=>rw[hq] at hf;cases hf
    |some q=>rw[hq] at hf;simp at hf;rw[←hf];exact aP c _ _
   exact k.out a (.inr ha) (fun o' ho' v hv _ _=>h.Ep hm ho' ho hi hf hv)
theorem aj.kinds(h:aj c zs pool os){b:Nat}(hb:b<c.N):nth zs (ai c b 0)=0∨(∃o,o∈os∧o.h=b)∨∃x:Nat,x<c.N∧nth zs (ai c b 0)=3+256*(x:Int):=by
 rcases h.all hb with hp|⟨o,ho,hb'⟩
 ·exact .inl (h.pl.fr b hp)
 ·unfold Ob.blocks at hb'
  rcases List.mem_cons.1 hb' with e|hl
  ·exact .inr (.inl ⟨o,ho,e.symm⟩)
  ·exact .inr (.inr ⟨o.h,(h.bZ o ho).hlt,(h.bZ o ho).leaf b (Ob.bQ.1 hl)⟩)
theorem pY{x:Nat}(hx:x<1048576):ek (3+256*(x:Int))∧uG (3+256*(x:Int))=0∧uK (3+256*(x:Int))=3:=by
 unfold ek dI uK uC uN uS uD uG uO
 omega
theorem jK:ek 0∧uG 0=0∧uK 0=0:=by unfold ek dI uK uC uN uS uD uG uO;omega
theorem aj.qm(h:aj c zs pool os)(hm:c.May)(hr:RingAt c zs l){b:Nat}(hb:b∈l):∃o,o∈os∧o.h=b:=by
 have hn:=hm.n
 rcases h.kinds (hr.lt b hb) with h0|h1|⟨x,hx,h2⟩
 ·have:=hr.hd b hb
  rw[h0] at this
  unfold dh at this
  rw[jK.2.2] at this
  omega
 ·exact h1
 ·have:=hr.hd b hb
  rw[h2] at this
  unfold dh at this
  rw[(pY (x:=x) (by omega)).2.2] at this
  omega
theorem RingAt.congr(h:RingAt c zs l)(hr:∀r,r=7∨r=8∨r=9→nth zs' r=nth zs r)(ht:∀b,b<c.N→nth zs' (ai c b 0)=nth zs (ai c b 0))(hs:∀b,b∈l→nth zs' (ai c b 6)=nth zs (ai c b 6)∧nth zs' (ai c b 7)=nth zs (ai c b 7)):RingAt c zs' l:=
 ⟨by rw[hr 7 (by omega)];exact h.r7,by rw[hr 8 (by omega)];exact h.r8,by rw[hr 9 (by omega)];exact h.r9,h.lt,h.nd,h.seg.congr hs,fun b hb=>by rw[ht b hb];exact h.tok b hb,fun b hb=>by rw[ht b (h.lt b hb)];exact h.hd b hb,fun b hb=>by rw[ht b hb];exact h.mrk b hb⟩
theorem RingAt.qp(h:RingAt c zs l)(hm:c.May){b v:Nat}(h0:v≠0)(h6:v≠6)(h7:v≠7)(hv:v<8)(x:Int):RingAt c (zs.set (ai c b v) x) l:=by
 have hw:=hm.w
 have hne:∀a u,u<8→u≠v→nth (zs.set (ai c b v) x) (ai c a u)=nth zs (ai c a u):=fun a u hu hn=>av (fun e=>hn (aH (by omega) (by omega) e).2.symm) x
 exact h.congr (fun r hr=>av (fun e=>by have:=aP c b v;omega) x) (fun a _=>hne a 0 (by omega) (Ne.symm h0)) (fun a _=>⟨hne a 6 (by omega) (Ne.symm h6),hne a 7 (by omega) (Ne.symm h7)⟩)
theorem aj.RS(h:aj c zs pool os)(hr:RingAt c zs l)(hm:c.May)(hz:zs.length=c.size)(ho:o∈os)(hn:o.h∉l):
  RingAt c (bI c o.h zs) (l++[o.h])∧qy c zs (bI c o.h zs) os∧∀o',o'∈os→nth (bI c o.h zs) (ai c o'.h 3)=nth zs (ai c o'.h 3):=by
 have hw:=hm.w
 have hA:=h.bZ o ho
 have hR:=hr.add hm hz hA.hlt hn hA.head
 have hg:=hr.Vt hA.hlt hn
 refine⟨hR,⟨oW c o.h zs,fun i hi hne=> ?_,fun o' ho'=> ?_⟩,fun o' ho'=>qj hr hz ⟨by have:=aP c o'.h 3;omega,by have:=aP c o'.h 3;omega,by have:=aP c o'.h 3;omega,fun e=>by have:=(aH (by omega) (by omega) e).2;omega,fun x _=>⟨fun e=>by have:=(aH (by omega) (by omega) e).2;omega,fun e=>by have:=(aH (by omega) (by omega) e).2;omega⟩⟩⟩
 ·refine qj hr hz ⟨by omega,by omega,by omega,hne o ho 0 (by omega) (by omega) (by omega),fun x hx=> ?_⟩
  obtain⟨o',ho',rfl⟩:∃o',o'∈os∧o'.h=x:=by
   rcases hx with rfl|hx
   ·exact⟨o,ho,rfl⟩
   ·exact h.qm hm hr hx
  exact⟨hne o' ho' 6 (by omega) (by omega) (by omega),hne o' ho' 7 (by omega) (by omega) (by omega)⟩
 ·refine⟨hR.tok _ (h.bZ o' ho').hlt,?_⟩
  rw[vS hm hz (h.bZ o' ho').hlt]
  split
  ·rename_i e
   rw[e]
   exact(hA.tok.SX hA.head hg).2.2.2.1
  ·rfl
theorem aj.RU{l1 l2:List Nat}(h:aj c zs pool os)(hr:RingAt c zs (l1++o.h::l2))(hm:c.May)(hz:zs.length=c.size)(ho:o∈os):
  RingAt c (bC c o.h zs) (l1++l2)∧qy c zs (bC c o.h zs) os∧∀o',o'∈os→nth (bC c o.h zs) (ai c o'.h 3)=nth zs (ai c o'.h 3):=by
 have hw:=hm.w
 have hA:=h.bZ o ho
 have hR:=hr.cut hm hz
 have hg:uG (nth zs (ai c o.h 0))=1:=(hr.mrk _ hA.hlt).2 (by simp)
 refine⟨hR,⟨oZ c o.h zs,fun i hi hne=> ?_,fun o' ho'=> ?_⟩,fun o' ho'=>ql hr hz ⟨by have:=aP c o'.h 3;omega,by have:=aP c o'.h 3;omega,by have:=aP c o'.h 3;omega,fun e=>by have:=(aH (by omega) (by omega) e).2;omega,fun x _=>⟨fun e=>by have:=(aH (by omega) (by omega) e).2;omega,fun e=>by have:=(aH (by omega) (by omega) e).2;omega⟩⟩⟩
 ·refine ql hr hz ⟨by omega,by omega,by omega,hne o ho 0 (by omega) (by omega) (by omega),fun x hx=> ?_⟩
  obtain⟨o',ho',rfl⟩:∃o',o'∈os∧o'.h=x:=by
   rcases hx with rfl|hx
   ·exact⟨o,ho,rfl⟩
   ·refine h.qm hm hr (?_:x∈l1++o.h::l2)
    rcases List.mem_append.1 hx with h1|h1
    ·simp[h1]
    ·simp[h1]
  exact⟨hne o' ho' 6 (by omega) (by omega) (by omega),hne o' ho' 7 (by omega) (by omega) (by omega)⟩
 ·refine⟨hR.tok _ (h.bZ o' ho').hlt,?_⟩
  rw[vT hm hz (h.bZ o' ho').hlt]
  split
  ·rename_i e
   rw[e]
   exact(hA.tok.SV hA.head hg).2.2.2.1
  ·rfl
structure Ng (c:Cf) (zs:List Int) (os:List Ob):Prop where
 reg:∀r,3≤r→r<24→nth zs r=0
 tag:∀o,o∈os→nth zs (ai c o.h 0)=1∨nth zs (ai c o.h 0)=2
 cnt:∀o,o∈os→nth zs (ai c o.h 3)=0
theorem pI.fresh(h:pI c zs):Ng c zs []:=⟨fun r h3 h24=>h.2 r (by omega) (fun b _ e=>by have:=aP c b 5;omega),fun o ho=>absurd ho (by simp),fun o ho=>absurd ho (by simp)⟩
theorem Ng.ring(hf:Ng c zs os)(h:aj c zs pool os)(hm:c.May):RingAt c zs []:=by
 have hn:=hm.n
 have hk:∀b,b<c.N→ek (nth zs (ai c b 0))∧uG (nth zs (ai c b 0))=0:=fun b hb=>by
  rcases h.kinds hb with h0|⟨o,ho,rfl⟩|⟨x,hx,h2⟩
  ·rw[h0];exact⟨jK.1,jK.2.1⟩
  ·refine⟨(h.bZ o ho).tok,?_⟩
   rcases hf.tag o ho with e|e<;>rw[e]<;>decide
  ·rw[h2];exact⟨(pY (by omega)).1,(pY (by omega)).2.1⟩
 refine⟨by rw[hf.reg 7 (by omega) (by omega)];rfl,by rw[hf.reg 8 (by omega) (by omega)];rfl,by rw[hf.reg 9 (by omega) (by omega)];rfl,by simp,by simp,trivial,fun b hb=>(hk b hb).1,by simp,fun b hb=> ?_⟩
 rw[(hk b hb).2]
 simp
end
def Th.ob(t:Th):Ob:=⟨t.h,t.pt.length,t.dt.length,t.lv.map (fun x=>(x+1).toNat)⟩
def Th.wM(t:Th)(i:Nat):Int:=if i<t.pt.length then nth t.pt i else nth t.dt (i-t.pt.length)
def bP(l:List Th):List Th:=l.filter (fun t=> !t.ended)
def Wd.live(D:Wd):List Th:=bP D.ts
def Wd.bZ(D:Wd):List Ob:=D.live.map Th.ob
def Wd.reg(D:Wd):Nat→Int
 |10=>D.parity
 |11=>D.phase
 |12=>D.cursor
 |13=>D.field
 |14=>D.scan
 |15=>D.scanF
 |16=>D.suspect
 |17=>D.units
 |18=>D.epochs%4294967296
 |_=>0
structure Bv (c:Cf) (zs:List Int) (h:Nat) (m:cz):Prop where
 cC:uC (nth zs (ai c h 0))=m.color
 cN:uN (nth zs (ai c h 0))=m.count
 cS:uS (nth zs (ai c h 0))=m.shade
 cD:uD (nth zs (ai c h 0))=if m.dead then 1 else 0
 w3:nth zs (ai c h 3)=m.refs
 w4:nth zs (ai c h 4)=m.shadow
structure aG (c:Cf) (zs:List Int) (D:Wd):Prop where
 n:D.n=c.N
 w:D.w=c.W
 heap:aj c zs D.clean D.bZ
 own:∀t,t∈D.live→Bv c zs t.h t.mr
 wM:∀t,t∈D.live→∀i a,i<t.ob.f→bg c t.ob i=some a→nth zs a=t.wM i
 ring:RingAt c zs D.ring
 grave:aV c zs 1 (D.grave.map (· -1))
 r6:nth zs 6=D.pending
 reg:∀k,10≤k→k≤18→nth zs k=D.reg k
 par:D.parity=0∨D.parity=1
 gv:∀r,r∈D.grave→∃t,t∈D.live∧t.h+1=r
 bur:∀t,t∈D.live→t.h+1∈D.grave→t.mr.dead=true∧nth zs (ai c t.h 6)=t.mr.left∧nth zs (ai c t.h 7)=t.mr.leaves∧t.h∉D.ring
section
variable {c:Cf} {zs zs':List Int} {D D':Wd} {t s:Th} {r:Int} {l:List Th}
theorem gM{l:List Th}:t∈bP l↔t∈l∧t.ended=false:=by unfold bP;rw[List.mem_filter];simp
theorem ax(h:D.find r=some t):t∈D.live∧(t.h:Int)+1=r:=by
 obtain⟨h1,h2,h3⟩:=df h
 exact⟨gM.2 ⟨h1,h2⟩,h3⟩
theorem aO(u:Th)(l:List Th):bP (u::l)=if u.ended then bP l else u::bP l:=by
 unfold bP
 cases h:u.ended<;>simp[h]
theorem gP{g:Th→Th}:∀{l:List Th},((bP l).map Th.h).Nodup→bE r l=some t→s∈bP (bJ r g l)→(s=g t)∨(s∈bP l∧s.h≠t.h)
 |[],_,h,_=>by simp[bE] at h
 |u::l,hn,h,hs=>by
  unfold bE at h
  unfold bJ at hs
  cases hu:u.at r with
  |true=>
   rw[hu] at h hs
   simp at h hs
   subst h
   have hue:u.ended=false:=by unfold Th.at at hu;simp at hu;exact hu.1
   rw[aO,hue] at hn ⊢
   simp at hn ⊢
   obtain⟨m1,m2⟩:=gM.1 hs
   rcases List.mem_cons.1 m1 with rfl|m1
   ·exact .inl rfl
   ·exact .inr ⟨.inr (gM.2 ⟨m1,m2⟩),fun e=>hn.1 s (gM.2 ⟨m1,m2⟩) e⟩
  |false=>
   rw[hu] at h hs
   simp at h hs
   have ht:=df h
   have htl:t∈bP l:=gM.2 ⟨ht.1,ht.2.1⟩
   rw[aO] at hn hs ⊢
   cases hue:u.ended with
   |true=>
    rw[hue] at hn hs
    simp at hn hs ⊢
    exact gP hn h hs
   |false=>
    rw[hue] at hn hs
    simp at hn hs ⊢
    rcases hs with rfl|hs
    ·exact .inr ⟨.inl rfl,fun e=>hn.1 t htl e.symm⟩
    ·rcases gP hn.2 h hs with h1|h1
     ·exact .inl h1
     ·exact .inr ⟨.inr h1.1,h1.2⟩
theorem uq{g:Th→Th}(hg:∀t,(g t).ended=t.ended∧(g t).ob=t.ob):∀l:List Th,(bP (bJ r g l)).map Th.ob=(bP l).map Th.ob
 |[]=>rfl
 |u::l=>by
  unfold bJ
  split
  ·rw[aO,aO,(hg u).1]
   split
   ·rfl
   ·simp[(hg u).2]
  ·rw[aO,aO]
   split
   ·exact uq hg l
   ·simp[uq hg l]
theorem qW{g:Th→Th}(hg:∀t,(g t).ended=t.ended∧(g t).h=t.h)(q:Int):∀l:List Th,bE q (bJ r g l)=(bE q l).map (fun t=>if t.at r then g t else t)
 |[]=>rfl
 |u::l=>by
  have hat:(g u).at q=u.at q:=by unfold Th.at;rw[(hg u).1,(hg u).2]
  have hqr:∀v:Th,v.at q=true→(v.at r=true↔q=r):=fun v hv=>by
   unfold Th.at at*
   simp at*
   rw[hv.1,hv.2]
   simp
  unfold bJ
  cases hu:u.at r with
  |true=>
   simp[bE,hat]
   cases hq:u.at q with
   |true=>simp[hu]
   |false=>
    simp
    cases h:bE q l with
    |none=>rfl
    |some v=>
     have hv:v.at q=true:=by
      obtain⟨i,hi,_⟩:=lg h
      obtain⟨w',h1,h2,_⟩:=lN hi
      obtain⟨j,hj,hv⟩:=lg h
      rw[hi] at hj;cases hj
      rw[hv] at h1;cases h1
      exact h2
     have:¬v.at r=true:=fun e=>by
      have e1:=(hqr v hv).1 e
      rw[e1] at hq
      rw[hq] at hu
      cases hu
     simp[this]
  |false=>
   simp[bE]
   cases hq:u.at q with
   |true=>simp[hu]
   |false=>simp[qW hg q l]
theorem tL(f:cz→cz):(D.mark r f).bZ=D.bZ:=uq (g:=fun t=>{t with mr:=f t.mr}) (fun _=>⟨rfl,rfl⟩) D.ts
theorem bG(f:cz→cz)(q:Int):(D.mark r f).find q=(D.find q).map (fun t=>if t.at r then {t with mr:=f t.mr} else t):=qW (g:=fun t=>{t with mr:=f t.mr}) (fun _=>⟨rfl,rfl⟩) q D.ts
theorem aG.nodup(R:aG c zs D):(D.live.map Th.h).Nodup:=by
 have:=heads_nodup' R.heap.nodupB
 unfold Wd.bZ at this
 rw[List.map_map] at this
 exact this
where
 heads_nodup':∀{os:List Ob},(os.flatMap Ob.blocks).Nodup→(os.map Ob.h).Nodup
 |[],_=>by simp
 |x::t,hn=>by
  rw[List.flatMap_cons,List.nodup_append] at hn
  obtain⟨n1,n2,n3⟩:=hn
  rw[List.map_cons,List.nodup_cons]
  refine⟨fun hm=> ?_,heads_nodup' n2⟩
  obtain⟨o,ho,e⟩:=List.mem_map.1 hm
  exact n3 x.h x.iy x.h (List.mem_flatMap.2 ⟨o,ho,e▸o.iy⟩) rfl
theorem jT(R:aG c zs D){f:cz→cz}(hf:D.find r=some t)(hs:s∈(D.mark r f).live):s={t with mr:=f t.mr}∨(s∈D.live∧s.h≠t.h):=gP R.nodup hf hs
theorem aG.bN(R:aG c zs D)(ht:t∈D.live):t.ob∈D.bZ:=List.mem_map.2 ⟨t,ht,rfl⟩
theorem aG.hlt(R:aG c zs D)(ht:t∈D.live):t.h<c.N:=(R.heap.bZ t.ob (R.bN ht)).hlt
theorem aG.ja(R:aG c zs D)(ht:t∈D.live):D.find ((t.h:Int)+1)=some t:=by
 have hn:=R.nodup
 unfold Wd.live at hn ht
 unfold Wd.find
 revert ht hn
 induction D.ts with
 |nil=>intro ht hn;simp[bP] at ht
 |cons u l ih=>
  intro ht hn
  unfold bE
  rw[aO] at hn ht
  cases hue:u.ended with
  |true=>
   rw[hue] at hn ht
   have:u.at ((t.h:Int)+1)=false:=by unfold Th.at;simp[hue]
   simp[this]
   exact ih (by simpa using ht) (by simpa using hn)
  |false=>
   rw[hue] at hn ht
   simp at hn ht
   rcases ht with rfl|ht
   ·have:t.at ((t.h:Int)+1)=true:=by unfold Th.at;simp[hue]
    simp[this]
   ·have:u.at ((t.h:Int)+1)=false:=by
     unfold Th.at
     simp[hue]
     intro e
     exact hn.1 t ht (by omega)
    simp[this]
    exact ih ht hn.2
theorem fw(R:aG c zs D)(r:Int):eT D.bZ r=(D.find r).map Th.ob:=by
 cases h:D.find r with
 |some t=>
  obtain⟨h1,rfl⟩:=ax h
  exact R.heap.eT (R.bN h1)
 |none=>
  cases ho:eT D.bZ r with
  |none=>rfl
  |some o=>
   obtain⟨h1,h2⟩:=nA ho
   unfold Wd.bZ at h1
   obtain⟨t,ht,rfl⟩:=List.mem_map.1 h1
   have:=R.ja ht
   rw[show((t.h:Int)+1)=r from h2] at this
   rw[this] at h
   cases h
theorem aG.frame(R:aG c zs D)(hm:c.May)(K:qy c zs zs' D.bZ)(hn:D'.n=D.n)(hw:D'.w=D.w)(hcl:D'.clean=D.clean)(hob:D'.bZ=D.bZ)
  (hf:∀t',t'∈D'.live→∃t,t∈D.live∧t'.h=t.h∧t'.lv=t.lv∧t'.pt=t.pt∧t'.dt=t.dt) (ho:∀t',t'∈D'.live→Bv c zs' t'.h t'.mr) (hr:RingAt c zs' D'.ring)
  (hg:aV c zs' 1 (D'.grave.map (· -1))) (h6:nth zs' 6=D'.pending) (hreg:∀k,10≤k→k≤18→nth zs' k=D'.reg k) (hp:D'.parity=0∨D'.parity=1)
  (hgv:∀r,r∈D'.grave→∃t,t∈D'.live∧t.h+1=r) (hbu:∀t,t∈D'.live→t.h+1∈D'.grave→t.mr.dead=true∧nth zs' (ai c t.h 6)=t.mr.left∧nth zs' (ai c t.h 7)=t.mr.leaves∧t.h∉D'.ring):aG c zs' D':=by
 obtain⟨h1,h2⟩:=R.heap.heads hm K
 refine⟨by rw[hn];exact R.n,by rw[hw];exact R.w,by rw[hcl,hob];exact h1,ho,fun t' ht' i a hi ha=> ?_,hr,hg,h6,hreg,hp,hgv,hbu⟩
 obtain⟨t,ht,e1,e2,e3,e4⟩:=hf t' ht'
 have eo:t'.ob=t.ob:=by unfold Th.ob;rw[e1,e2,e3,e4]
 have ef:t'.wM i=t.wM i:=by unfold Th.wM;rw[e3,e4]
 rw[eo] at hi ha
 rw[ef,←R.wM t ht i a hi ha]
 have:=h2 t.ob i (R.bN ht) hi
 unfold iw at this
 rw[ha] at this
 exact this
theorem aV.same{k:Nat}{l:List Nat}(h:aV c zs k l)(hr:∀r,3*k≤r→r<3*k+3→nth zs' r=nth zs r)(hl:∀b,b<c.N→nth zs' (ai c b 5)=nth zs (ai c b 5)):aV c zs' k l:=
 h.congr (hr _ (by omega) (by omega)) (hr _ (by omega) (by omega)) (hr _ (by omega) (by omega)) (fun b hb=>by rw[iI];exact hl b (h.lt b hb))
theorem aG.kP(R:aG c zs D)(hm:c.May)(hz:zs.length=c.size){k:Nat}{x:Int}(hk0:10≤k)(hk1:k≤18)(hn:D'.n=D.n)(hw:D'.w=D.w)(hcl:D'.clean=D.clean)(hts:D'.ts=D.ts)(hri:D'.ring=D.ring)(hgr:D'.grave=D.grave)(hpe:D'.pending=D.pending)
  (hx:D'.reg k=x) (ho:∀j,10≤j→j≤18→j≠k→D'.reg j=D.reg j) (hp:D'.parity=0∨D'.parity=1):aG c (zs.set k x) D':=by
 have hs:=hm.size
 have ha:∀b u,nth (zs.set k x) (ai c b u)=nth zs (ai c b u):=fun b u=>av (fun e=>by have:=aP c b u;omega) x
 have hr:∀j,j≠k→nth (zs.set k x) j=nth zs j:=fun j hj=>av (fun e=>hj e.symm) x
 have hlive:D'.live=D.live:=by unfold Wd.live;rw[hts]
 refine R.frame hm ⟨by simp,fun i hi hne=>hr i (by omega),fun o ho'=>by rw[ha];exact⟨(R.heap.bZ o ho').tok,rfl⟩⟩ hn hw hcl (by unfold Wd.bZ;rw[hlive]) (fun t' ht'=>⟨t',hlive▸ht',rfl,rfl,rfl,rfl⟩) (fun t' ht'=> ?_) ?_ ?_ (by rw[hr 6 (by omega),hpe];exact R.r6) (fun j h1 h2=> ?_) hp (by rw[hgr,hlive];exact R.gv) (fun t' ht' hg=>by rw[ha,ha,hri];exact R.bur t' (hlive▸ht') (hgr▸hg))
 ·obtain⟨a1,a2,a3,a4,a5,a6⟩:=R.own t' (hlive▸ht')
  constructor<;>rw[ha]<;>assumption
 ·rw[hri]
  exact R.ring.congr (fun j hj=>hr j (by omega)) (fun b _=>ha b 0) (fun b _=>⟨ha b 6,ha b 7⟩)
 ·rw[hgr]
  exact R.grave.same (fun j h1 h2=>hr j (by omega)) (fun b _=>ha b 5)
 ·by_cases e:j=k
  ·subst e
   rw[bf (by rw[hz];omega),hx]
  ·rw[hr j e,ho j h1 h2 e]
   exact R.reg j h1 h2
theorem RingAt.setTag{l:List Nat}(h:RingAt c zs l)(hm:c.May)(hz:zs.length=c.size){b:Nat}(hb:b<c.N){x:Int}(hx:ek x)(hk:uK x=uK (nth zs (ai c b 0)))(hg:uG x=uG (nth zs (ai c b 0))):RingAt c (zs.set (ai c b 0) x) l:=by
 have hw:=hm.w
 have hne:∀a u,u<8→(a≠b∨u≠0)→nth (zs.set (ai c b 0) x) (ai c a u)=nth zs (ai c a u):=fun a u hu hn=>av (fun e=>by
  have:=aH (c:=c) (by omega) (by omega) e
  rcases hn with hn|hn
  ·exact hn this.1.symm
  ·exact hn this.2.symm) x
 have hself:nth (zs.set (ai c b 0) x) (ai c b 0)=x:=bf (by rw[hz];exact gB hb (by omega)) x
 have hreg:∀r,r<24→nth (zs.set (ai c b 0) x) r=nth zs r:=fun r hr=>av (fun e=>by have:=aP c b 0;omega) x
 refine⟨by rw[hreg 7 (by omega)];exact h.r7,by rw[hreg 8 (by omega)];exact h.r8,by rw[hreg 9 (by omega)];exact h.r9,h.lt,h.nd,h.seg.congr (fun a _=>⟨hne a 6 (by omega) (.inr (by omega)),hne a 7 (by omega) (.inr (by omega))⟩),fun a ha=> ?_,fun a ha=> ?_,fun a ha=> ?_⟩
 ·by_cases e:a=b
  ·rw[e,hself];exact hx
  ·rw[hne a 0 (by omega) (.inl e)];exact h.tok a ha
 ·by_cases e:a=b
  ·rw[e,hself]
   have:=h.hd a ha
   rw[e] at this
   unfold dh at*
   rw[hk];exact this
  ·rw[hne a 0 (by omega) (.inl e)];exact h.hd a ha
 ·by_cases e:a=b
  ·rw[e,hself,hg];exact h.mrk b hb
  ·rw[hne a 0 (by omega) (.inl e)];exact h.mrk a ha
theorem rY(R:aG c zs D){f:cz→cz}(hf:D.find r=some t)(hs:s∈(D.mark r f).live):∃u,u∈D.live∧s.h=u.h∧s.lv=u.lv∧s.pt=u.pt∧s.dt=u.dt:=by
 rcases jT R hf hs with rfl|⟨h,_⟩
 ·exact⟨t,(ax hf).1,rfl,rfl,rfl,rfl⟩
 ·exact⟨s,h,rfl,rfl,rfl,rfl⟩
theorem BV(R:aG c zs D)(f:cz→cz)(q:Nat)(hq:q∈D.grave):∃u,u∈(D.mark r f).live∧u.h+1=q:=by
 obtain⟨u,hu,e⟩:=R.gv q hq
 have h1:u.ob∈(D.mark r f).bZ:=by rw[tL];exact R.bN hu
 obtain⟨v,hv,e2⟩:=List.mem_map.1 h1
 have:v.h=u.h:=congrArg Ob.h e2
 exact⟨v,hv,by omega⟩
theorem aG.setTag(R:aG c zs D)(hm:c.May)(hz:zs.length=c.size)(hf:D.find r=some t){x:Int}(hx:ek x)(hk:uK x=uK (nth zs (ai c t.h 0)))(hg:uG x=uG (nth zs (ai c t.h 0))){f:cz→cz}
  (hm':f t.mr={t.mr with color:=uC x,count:=uN x,shade:=uS x,dead:=decide (uD x=1)}) (hd:t.mr.dead=true→uD x=1):aG c (zs.set (ai c t.h 0) x) (D.mark r f):=by
 have hw:=hm.w
 obtain⟨htl,hr⟩:=ax hf
 have hlt:=R.hlt htl
 have hne:∀a u,u<8→(a≠t.h∨u≠0)→nth (zs.set (ai c t.h 0) x) (ai c a u)=nth zs (ai c a u):=fun a u hu hn=>av (fun e=>by
  have:=aH (c:=c) (by omega) (by omega) e
  rcases hn with hn|hn
  ·exact hn this.1.symm
  ·exact hn this.2.symm) x
 have hself:nth (zs.set (ai c t.h 0) x) (ai c t.h 0)=x:=bf (by rw[hz];exact gB hlt (by omega)) x
 have hreg:∀r,r<24→nth (zs.set (ai c t.h 0) x) r=nth zs r:=fun r hr=>av (fun e=>by have:=aP c t.h 0;omega) x
 have hD:uD x=0∨uD x=1:=by unfold uD;omega
 refine R.frame hm ⟨by simp,fun i hi hne'=>av (fun e=>hne' t.ob (R.bN htl) 0 (by omega) (by omega) (by omega) e.symm) x,fun o ho=> ?_⟩ rfl rfl rfl (tL f) (fun s hs=>rY R hf hs) (fun s hs=> ?_) (R.ring.setTag hm hz hlt hx hk hg) (R.grave.same (fun j h1 h2=>hreg j (by omega)) (fun b _=>hne b 5 (by omega) (.inr (by omega)))) (by rw[hreg 6 (by omega)];exact R.r6) (fun j h1 h2=>by rw[hreg j (by omega)];exact R.reg j h1 h2) R.par (fun q hq=>BV R f q hq) (fun s hs hg'=> ?_)
 ·by_cases e:o.h=t.h
  ·rw[e,hself];exact⟨hx,hk⟩
  ·rw[hne o.h 0 (by omega) (.inl e)];exact⟨(R.heap.bZ o ho).tok,rfl⟩
 ·rcases jT R hf hs with rfl|⟨h,hn⟩
  ·have:=R.own t htl
   refine⟨?_,?_,?_,?_,?_,?_⟩
   ·rw[hself];simp only[hm']
   ·rw[hself];simp only[hm']
   ·rw[hself];simp only[hm']
   ·rw[hself]
    simp only[hm']
    rcases hD with e|e<;>rw[e]<;>decide
   ·rw[hne t.h 3 (by omega) (.inr (by omega))];simp only[hm'];exact this.w3
   ·rw[hne t.h 4 (by omega) (.inr (by omega))];simp only[hm'];exact this.w4
  ·obtain⟨a1,a2,a3,a4,a5,a6⟩:=R.own s h
   constructor<;>rw[hne s.h _ (by omega) (.inl hn)]<;>assumption
 ·rcases jT R hf hs with rfl|⟨h,hn⟩
  ·obtain⟨b1,b2,b3,b4⟩:=R.bur t htl hg'
   refine⟨?_,?_,?_,b4⟩
   ·simp only[hm',hd b1];rfl
   ·rw[hne t.h 6 (by omega) (.inr (by omega))];simp only[hm'];exact b2
   ·rw[hne t.h 7 (by omega) (.inr (by omega))];simp only[hm'];exact b3
  ·rw[hne s.h 6 (by omega) (.inl hn),hne s.h 7 (by omega) (.inl hn)]
   exact R.bur s h hg'
theorem aG.qp(R:aG c zs D)(hm:c.May)(hz:zs.length=c.size)(hf:D.find r=some t){v:Nat}(hv:v=3∨v=4){x:Int}{f:cz→cz}
  (hm':f t.mr=if v=3 then {t.mr with refs:=x} else {t.mr with shadow:=x}):aG c (zs.set (ai c t.h v) x) (D.mark r f):=by
 have hw:=hm.w
 obtain⟨htl,hr⟩:=ax hf
 have hlt:=R.hlt htl
 have hne:∀a u,u<8→(a≠t.h∨u≠v)→nth (zs.set (ai c t.h v) x) (ai c a u)=nth zs (ai c a u):=fun a u hu hn=>av (fun e=>by
  have:=aH (c:=c) (by omega) (by omega) e
  rcases hn with hn|hn
  ·exact hn this.1.symm
  ·exact hn this.2.symm) x
 have hself:nth (zs.set (ai c t.h v) x) (ai c t.h v)=x:=bf (by rw[hz];exact gB hlt (by omega)) x
 have hreg:∀r,r<24→nth (zs.set (ai c t.h v) x) r=nth zs r:=fun r hr=>av (fun e=>by have:=aP c t.h v;omega) x
 refine R.frame hm ⟨by simp,fun i hi hne'=>av (fun e=>hne' t.ob (R.bN htl) v (by omega) (by omega) (by omega) e.symm) x,fun o ho=>by rw[hne o.h 0 (by omega) (.inr (by omega))];exact⟨(R.heap.bZ o ho).tok,rfl⟩⟩ rfl rfl rfl (tL f) (fun s hs=>rY R hf hs) (fun s hs=> ?_) (R.ring.qp hm (by omega) (by omega) (by omega) (by omega) x) (R.grave.same (fun j h1 h2=>hreg j (by omega)) (fun b _=>hne b 5 (by omega) (.inr (by omega)))) (by rw[hreg 6 (by omega)];exact R.r6) (fun j h1 h2=>by rw[hreg j (by omega)];exact R.reg j h1 h2) R.par (fun q hq=>BV R f q hq) (fun s hs hg'=> ?_)
 ·rcases jT R hf hs with rfl|⟨h,hn⟩
  ·have:=R.own t htl
   have h0:=hne t.h 0 (by omega) (.inr (by omega))
   rcases hv with rfl|rfl
   ·rw[if_pos rfl] at hm'
    have h4:=hne t.h 4 (by omega) (.inr (by omega))
    refine⟨?_,?_,?_,?_,?_,?_⟩<;>simp only[hm',h0,h4,hself]
    ·exact this.cC
    ·exact this.cN
    ·exact this.cS
    ·exact this.cD
    ·exact this.w4
   ·rw[if_neg (by decide)] at hm'
    have h3:=hne t.h 3 (by omega) (.inr (by omega))
    refine⟨?_,?_,?_,?_,?_,?_⟩<;>simp only[hm',h0,h3,hself]
    ·exact this.cC
    ·exact this.cN
    ·exact this.cS
    ·exact this.cD
    ·exact this.w3
  ·obtain⟨a1,a2,a3,a4,a5,a6⟩:=R.own s h
   constructor<;>rw[hne s.h _ (by omega) (.inl hn)]<;>assumption
 ·have e6:∀b,nth (zs.set (ai c t.h v) x) (ai c b 6)=nth zs (ai c b 6):=fun b=>hne b 6 (by omega) (.inr (by omega))
  have e7:∀b,nth (zs.set (ai c t.h v) x) (ai c b 7)=nth zs (ai c b 7):=fun b=>hne b 7 (by omega) (.inr (by omega))
  rcases jT R hf hs with rfl|⟨h,hn⟩
  ·have hb:=R.bur t htl hg'
   rw[e6,e7]
   have k1:(f t.mr).dead=t.mr.dead:=by rw[hm'];split<;>rfl
   have k2:(f t.mr).left=t.mr.left:=by rw[hm'];split<;>rfl
   have k3:(f t.mr).leaves=t.mr.leaves:=by rw[hm'];split<;>rfl
   exact⟨by show(f t.mr).dead=true;rw[k1];exact hb.1,by show _=(f t.mr).left;rw[k2];exact hb.2.1,by show _=(f t.mr).leaves;rw[k3];exact hb.2.2.1,hb.2.2.2⟩
  ·rw[e6,e7]
   exact R.bur s h hg'
end
structure Bw:Prop where
 take_yes:∀(c:Cf) (zs:List Int) (l:List Nat) (b:Nat),Wz c zs→RingAt c zs (b::l)→jk c 183 [] zs 24 (bC c b zs) (.tuple #[.int .i64 (b:Int),.bool true])
 take_no:∀(c:Cf) (zs:List Int),Wz c zs→RingAt c zs []→jk c 183 [] zs 24 zs (.tuple #[.int .i64 0,.bool false])
 list:∀(c:Cf) (zs:List Int) (l:List Nat),Wz c zs→RingAt c zs l→Looks c 118 [] zs (fA l)
structure Bu:Prop where
 open_yes : ∀ (c : Cf), c.May → ∃ zs', jk c 35 [] (List.replicate c.size 0) (200 * c.N + 200) zs' (.bool true) ∧ pI c zs'
 list:∀(c:Cf) (zs:List Int) (l:List Nat),Wz c zs→aV c zs 0 l→Looks c 62 [] zs (fA l)
theorem pI.heap{c:Cf}{zs:List Int}(h:pI c zs):aj c zs (List.range c.N) []:=⟨h.1,fun o ho=>absurd ho (by simp),by simp⟩
def rU(w:World)(p:Pl)(c:Cf)(zs:List Int)(pool:List Nat)(os:List Ob)(wr:World):Prop:=
 ∃m,G wr p c ⟨zs,m⟩∧aj c zs pool os∧(∀k,ah p k→w.heap.size≤k)∧Below w.heap.size w wr
theorem rU.heap{w wr:World}{p:Pl}{c:Cf}{zs:List Int}{pool:List Nat}{os:List Ob}(h:rU w p c zs pool os wr):aj c zs pool os:=by obtain⟨m,hG,hh,_⟩:=h;exact hh
structure Seen (w:World) (q lo hi:Nat) (P D:List Int) (n1 n2:Nat) (a1:Option Addr) (c1:Nat) (a2:Option Addr) (c2:Nat):Prop where
 box:aT w q #[.slice a1 n1 c1,.slice a2 n2 c2] 57
 r1:dZ w .i64 a1 P
 r2:dZ w .u32 a2 D
 l1:P.length=n1
 l2:D.length=n2
 hq:lo≤q∧q<hi
 h1:∀b off,a1=some ⟨b,off,none⟩→lo≤b∧b<hi∧b≠q
 h2:∀b off,a2=some ⟨b,off,none⟩→lo≤b∧b<hi∧b≠q
 h12:∀b off b' off',a1=some ⟨b,off,none⟩→a2=some ⟨b',off',none⟩→b≠b'
theorem Seen.touch{X:Nat→Prop}{w w':World}{q lo hi:Nat}{P D:List Int}{n1 n2:Nat}{a1:Option Addr}{c1:Nat}{a2:Option Addr}{c2:Nat}(h:Seen w q lo hi P D n1 n2 a1 c1 a2 c2)(t:Touch X w w')(hx:∀i,lo≤i→i<hi→¬X i):Seen w' q lo hi P D n1 n2 a1 c1 a2 c2:=
 ⟨h.box.touch t (hx q h.hq.1 h.hq.2),h.r1.touch t (fun _ b off e=>hx b (h.h1 b off e).1 (h.h1 b off e).2.1),h.r2.touch t (fun _ b off e=>hx b (h.h2 b off e).1 (h.h2 b off e).2.1),h.l1,h.l2,h.hq,h.h1,h.h2,h.h12⟩
theorem Cg{zs:List Int}(a b:Option Addr)(n ca cb:Nat)(w:World)(hn:zs.length=n)(h1:Row w .i64 a zs)(h2:Row w .i64 b zs)(hl:n≤10000):
  Calls Tryz.prog 24 #[.slice a n ca,.slice b n cb] w fun e w'=>e=.returned (.bool true)∧dK w w':=by
 subst hn
 exact FP a b ca cb zs w h1 h2 hl
theorem BC(c:Cf)(b v:Nat):¬ai c b v<3:=by unfold ai;omega
def eP(c:Cf):List Nat→List Int→List Int
 |[],zs=>zs
 |b::l,zs=>eP c l (dE c b zs)
theorem Gn(c:Cf)(l:List Nat)(b:Nat)(zs:List Int):eP c (l++[b]) zs=dE c b (eP c l zs):=by
 induction l generalizing zs with
 |nil=>rfl
 |cons x t ih=>exact ih _
theorem zG(c:Cf)(l:List Nat)(zs:List Int):(eP c l zs).length=zs.length:=by
 induction l generalizing zs with
 |nil=>rfl
 |cons x t ih=>show(eP c t _).length=_;rw[ih,fQ]
theorem dx.taken{c:Cf}{pool:List Nat}:∀(l:List Nat) {zs:List Int},dx c zs (l++pool)→c.May→zs.length=c.size→l.Nodup→
  dx c (eP c l zs) pool∧(∀b v,b∈l→v<c.W→nth (eP c l zs) (ai c b v)=0)∧(∀i,¬i<3→(∀b,b∈l→¬jN c b i)→nth (eP c l zs) i=nth zs i)
 |[],zs,h,_,_,_=>⟨h,fun b v hb=>absurd hb (by simp),fun i _ _=>rfl⟩
 |x::t,zs,h,hm,hz,hn=>by
  obtain⟨h1,h2⟩:=dx.take (b:=x) (l:=t++pool) h hm hz
  have hn':=List.nodup_cons.1 hn
  have hz':(dE c x zs).length=c.size:=by rw[fQ,hz]
  obtain⟨a1,a2,a3⟩:=dx.taken t h1 hm hz' hn'.2
  refine⟨a1,fun b v hb hv=> ?_,fun i h3 hi=> ?_⟩
  ·rcases List.mem_cons.1 hb with rfl|hb
   ·rw[show eP c (b::t) zs=eP c t (dE c b zs) from rfl,a3 _ (BC _ _ _) (fun b' hb'=>jw (fun e=>hn'.1 (by rw[e];exact hb')) hv)]
    exact h2 v hv
   ·exact a2 b v hb hv
  ·rw[show eP c (x::t) zs=eP c t (dE c x zs) from rfl,a3 i h3 (fun b hb=>hi b (by simp[hb])),CB hm hz (hi x (by simp)) h3]
def iK(c:Cf)(h:Nat)(t p d:Int)(z:List Int):List Int:=((z.set (ai c h 0) t).set (ai c h 1) p).set (ai c h 2) d
def iL(c:Cf)(h:Nat)(ls:List Nat):Nat→List Int→List Int
 |0,z=>z
 |k+1,z=>(iL c h ls k z).set (ai c h (8+k)) (((ls.getD k 0:Nat):Int)+1)
def lU(c:Cf)(h:Nat)(ls:List Nat):Nat→List Int→List Int
 |0,z=>z
 |k+1,z=>(lU c h ls k z).set (ai c (ls.getD k 0) 0) (3+256*(h:Int))
theorem tq(c:Cf)(h:Nat)(ls:List Nat)(k:Nat)(z:List Int):(iL c h ls k z).length=z.length:=by
 induction k with
 |zero=>rfl
 |succ k ih=>show((iL c h ls k z).set _ _).length=_;rw[List.length_set,ih]
theorem Fv(c:Cf)(h:Nat)(ls:List Nat)(k:Nat)(z:List Int):(lU c h ls k z).length=z.length:=by
 induction k with
 |zero=>rfl
 |succ k ih=>show((lU c h ls k z).set _ _).length=_;rw[List.length_set,ih]
theorem uT(c:Cf)(h:Nat)(ls:List Nat)(z:List Int)(i:Nat):∀k,(∀j,j<k→i≠ai c h (8+j))→nth (iL c h ls k z) i=nth z i
 |0,_=>rfl
 |k+1,hi=>by
  show nth ((iL c h ls k z).set _ _) i=_
  rw[av (fun e=>hi k (by omega) e.symm),uT c h ls z i k (fun j hj=>hi j (by omega))]
theorem Fh{c:Cf}{h:Nat}(ls:List Nat){z:List Int}(hz:z.length=c.size)(hh:h<c.N):∀k,8+k≤c.W→∀j,j<k→nth (iL c h ls k z) (ai c h (8+j))=((ls.getD j 0:Nat):Int)+1
 |0,_,j,hj=>absurd hj (by omega)
 |k+1,hk,j,hj=>by
  show nth ((iL c h ls k z).set _ _) _=_
  by_cases e:j=k
  ·subst e
   exact bf (by rw[tq,hz];exact gB hh (by omega)) _
  ·rw[av (fun e2=>e (by have:=(aH (by omega) (by omega) e2).2;omega)),Fh ls hz hh k (by omega) j (by omega)]
theorem tT(c:Cf)(h:Nat)(ls:List Nat)(z:List Int)(i:Nat):∀k,(∀j,j<k→i≠ai c (ls.getD j 0) 0)→nth (lU c h ls k z) i=nth z i
 |0,_=>rfl
 |k+1,hi=>by
  show nth ((lU c h ls k z).set _ _) i=_
  rw[av (fun e=>hi k (by omega) e.symm),tT c h ls z i k (fun j hj=>hi j (by omega))]
theorem KH{c:Cf}{h:Nat}(ls:List Nat){z:List Int}(hw:0<c.W)(hz:z.length=c.size)(hl:∀j,j<ls.length→ls.getD j 0<c.N):∀k,k≤ls.length→∀j,j<k→nth (lU c h ls k z) (ai c (ls.getD j 0) 0)=3+256*(h:Int)
 |0,_,j,hj=>absurd hj (by omega)
 |k+1,hk,j,hj=>by
  show nth ((lU c h ls k z).set _ _) _=_
  rw[bB (by rw[Fv,hz];exact gB (hl k (by omega)) hw)]
  by_cases e:ai c (ls.getD j 0) 0=ai c (ls.getD k 0) 0
  ·rw[if_pos e]
  ·rw[if_neg e,KH ls hw hz hl k (by omega) j (by
    by_cases e2:j=k
    ·subst e2;exact absurd rfl e
    ·omega)]
theorem Ce(c:Cf)(h:Nat)(t p d:Int)(z:List Int):(iK c h t p d z).length=z.length:=by unfold iK;simp
theorem Iw{c:Cf}(hw:3≤c.W)(h:Nat)(t p d:Int)(z:List Int):cB c h z (iK c h t p d z):=
 ((cB.set (by omega) t).trans (cB.set (by omega) p)).trans (cB.set (by omega) d)
theorem xS{c:Cf}{h:Nat}(ls:List Nat)(z:List Int):∀k,8+k≤c.W→cB c h z (iL c h ls k z)
 |0,_=>cB.refl _ _ _
 |k+1,hk=>(xS ls z k (by omega)).trans (cB.set (by omega) _)
theorem dx.owned{c:Cf}{h:Nat}{ls pool:List Nat}{z:List Int}(hP:dx c z pool)(hm:c.May)(hl:∀j,j<ls.length→ls.getD j 0∉pool):∀k,k≤ls.length→dx c (lU c h ls k z) pool
 |0,_=>hP
 |k+1,hk=>(dx.owned hP hm hl k (by omega)).only hm (hl k (by omega)) (cB.set (by have:=hm.w;omega) _)
theorem Lv{c:Cf}{h:Nat}{z:List Int}(hw:3≤c.W)(hz:z.length=c.size)(hh:h<c.N)(t p d:Int):
  nth (iK c h t p d z) (ai c h 0)=t∧nth (iK c h t p d z) (ai c h 1)=p∧nth (iK c h t p d z) (ai c h 2)=d∧∀v,3≤v→v<c.W→nth (iK c h t p d z) (ai c h v)=nth z (ai c h v):=by
 have l:∀v,v<c.W→ai c h v<c.size:=fun v hv=>gB hh hv
 have n:∀u v:Nat,u<c.W→v<c.W→u≠v→ai c h u≠ai c h v:=fun u v hu hv h e=>h (aH hu hv e).2
 unfold iK
 refine⟨?_,?_,?_,fun v h3 hv=> ?_⟩
 ·rw[av (n 2 0 (by omega) (by omega) (by omega)),av (n 1 0 (by omega) (by omega) (by omega)),bf (by rw[hz];exact l 0 (by omega))]
 ·rw[av (n 2 1 (by omega) (by omega) (by omega)),bf (by simp[hz];exact l 1 (by omega))]
 ·rw[bf (by simp[hz];exact l 2 (by omega))]
 ·rw[av (n 2 v (by omega) hv (by omega)),av (n 1 v (by omega) hv (by omega)),av (n 0 v (by omega) hv (by omega))]
def kindOf(ls:List Nat):Int:=if ls.length=0 then 1 else 2
def xN(c:Cf)(h:Nat)(ls:List Nat)(p d:Int)(zs:List Int):List Int:=lU c h ls ls.length (iL c h ls ls.length (iK c h (kindOf ls) p d (eP c (h::ls) zs)))
theorem tu(h p d:Nat)(ls:List Nat):(iA h p d ls).leaves=ls:=by
 unfold Ob.leaves iA
 rw[List.filterMap_map]
 have:((fun n=>if n=0 then none else some (n-1))∘fun x=>x+1)=(some:Nat→Option Nat):=by funext x;simp
 rw[this,List.filterMap_some]
theorem Uv:ek 1:=by unfold ek dI uK uC uN uS uD uG uO;decide
theorem Uw:ek 2:=by unfold ek dI uK uC uN uS uD uG uO;decide
theorem KD{c:Cf}{zs:List Int}{h:Nat}{ls pool:List Nat}{os:List Ob}{p d:Nat}(hm:c.May)(hz:zs.length=c.size)(H:aj c zs (h::ls++pool) os)(he:bF c.W p d=0)(hb:(1+ls.length:Int)=aZ c.W p d):
  Bq c zs (xN c h ls p d zs) pool os (iA h p d ls):=by
 have hw:=hm.w
 obtain⟨q0,q1,q2,q3,q4⟩:=uk he
 have hlv:(ls.length:Int)=bA c.W (p+d):=by unfold aZ at hb;rw[if_pos he] at hb;omega
 have hL:=lm q0 q1 q4
 have hnd:(h::ls).Nodup:=by
  have:=H.nodup
  rw[List.append_assoc] at this
  exact(List.nodup_append.1 this).1
 have hnp:∀b,b∈h::ls→b∉pool:=fun b hb' hp=>by
  have:=(List.nodup_append.1 H.nodup).1
  exact(List.nodup_append.1 this).2.2 b hb' b hp rfl
 have hN:∀b,b∈h::ls→b<c.N:=fun b hb'=>List.mem_range.1 (H.perm.mem_iff.1 (List.mem_append_left _ (List.mem_append_left _ hb')))
 have hno:∀b o,o∈os→b∈o.blocks→b∉h::ls:=fun b o ho hbo hx=>H.mJ ho hbo (List.mem_append_left _ hx)
 obtain⟨D1,D2,D3⟩:=dx.taken (h::ls) (pool:=pool) H.pl hm hz hnd
 have hhl:h∉ls:=(List.nodup_cons.1 hnd).1
 have hhN:=hN h (by simp)
 have hget:∀j,j<ls.length→ls.getD j 0∈ls:=fun j hj=>by simp[List.getD,hj]
 generalize eD:eP c (h::ls) zs=D at*
 have hDl:D.length=c.size:=by rw[←eD,zG,hz]
 generalize eH:iK c h (kindOf ls) p d D=Hd at*
 have hHl:Hd.length=c.size:=by rw[←eH,Ce,hDl]
 obtain⟨b0,b1,b2,b3⟩:=Lv (c:=c) (h:=h) (z:=D) (by omega) hDl hhN (kindOf ls) p d
 rw[eH] at b0 b1 b2 b3
 have hHo:cB c h D Hd:=by rw[←eH];exact Iw (by omega) _ _ _ _ _
 have hk:8+ls.length≤c.W:=by omega
 generalize eN:iL c h ls ls.length Hd=Nm at*
 have hNl:Nm.length=c.size:=by rw[←eN,tq,hHl]
 have hNo:cB c h Hd Nm:=by rw[←eN];exact xS ls Hd _ hk
 have hlN:∀j,j<ls.length→ls.getD j 0<c.N:=fun j hj=>hN _ (List.mem_cons_of_mem _ (hget j hj))
 have eM:xN c h ls p d zs=lU c h ls ls.length Nm:=by unfold xN;rw[eD,eH,eN]
 rw[eM]
 -- what stands where
 have A:∀i,(∀b,b∈h::ls→¬jN c b i)→nth (lU c h ls ls.length Nm) i=nth D i:=fun i hi=>by
  rw[tT c h ls Nm i _ (fun j hj e=>hi _ (List.mem_cons_of_mem _ (hget j hj)) (by rw[e];exact qG (by omega))),hNo.2 i (hi h (by simp)),hHo.2 i (hi h (by simp))]
 have Bh:∀v,v<c.W→nth (lU c h ls ls.length Nm) (ai c h v)=nth Nm (ai c h v):=fun v hv=>
  tT c h ls Nm _ _ (fun j hj e=>hhl (by rw[(aH hv (by omega) e).1];exact hget j hj))
 have Bl:∀v,v<8→nth Nm (ai c h v)=nth Hd (ai c h v):=fun v hv=>by
  rw[←eN]
  exact uT c h ls Hd _ _ (fun j hj e=>by have:=(aH (by omega) (by omega) e).2;omega)
 have Bn:∀j,j<ls.length→nth Nm (ai c h (8+j))=((ls.getD j 0:Nat):Int)+1:=fun j hj=>by rw[←eN];exact Fh ls hHl hhN _ hk j hj
 have Bz:∀v,3≤v→v<c.W→nth D (ai c h v)=0:=fun v h3 hv=>D2 h v (by simp) hv
 have C0:∀b,b∈ls→nth (lU c h ls ls.length Nm) (ai c b 0)=3+256*(h:Int):=fun b hb'=>by
  obtain⟨j,hj,rfl⟩:=List.getElem_of_mem hb'
  have:=KH (h:=h) ls (by omega) hNl hlN ls.length (Nat.le_refl _) j hj
  rw[show ls.getD j 0=ls[j] by simp[List.getD,hj]] at this
  exact this
 have C1:∀b v,b∈ls→1≤v→v<c.W→nth (lU c h ls ls.length Nm) (ai c b v)=0:=fun b v hb' h1 hv=>by
  have hne:b≠h:=fun e=>hhl (by rw[←e];exact hb')
  rw[tT c h ls Nm _ _ (fun j hj e=>by have:=(aH hv (by omega) e).2;omega),hNo.2 _ (jw hne hv),hHo.2 _ (jw hne hv)]
  exact D2 b v (List.mem_cons_of_mem _ hb') hv
 have hsm:(iA h p d ls).f≤c.W-8↔ls.length=0:=by
  show p+d≤c.W-8↔_
  constructor
  ·intro hs
   rw[iG (by omega)] at hlv
   omega
  ·intro h0
   by_cases hs:p+d≤c.W-8
   ·exact hs
   ·have:=(jR (W:=c.W) (n:=(p:Int)+d) q0 q1 (by omega) q4).1
    omega
 have hmem:∀b,b+1∈(iA h p d ls).lv→b∈ls:=fun b hb'=>by
  have:=Ob.bQ.2 hb'
  rw[tu] at this
  exact this
 have hblk:(iA h p d ls).blocks=h::ls:=by unfold Ob.blocks;rw[tu];rfl
 have hObj:jM c (lU c h ls ls.length Nm) (iA h p d ls):=by
  refine⟨hhN,fun b hb'=>hN b (List.mem_cons_of_mem _ (hmem b hb')),?_,?_,by show((p+d:Nat):Int)≤_;omega,by show(((ls.map (· +1)).length:Nat):Int)=bA c.W ((p+d:Nat):Int);rw[List.length_map,hlv];congr 1,?_,?_,fun j hj=> ?_,fun b hb'=>C0 b (hmem b hb')⟩
  ·show nth _ (ai c h 1)=(p:Int);rw[Bh 1 (by omega),Bl 1 (by omega),b1]
  ·show nth _ (ai c h 2)=(d:Int);rw[Bh 2 (by omega),Bl 2 (by omega),b2]
  ·show ek (nth _ (ai c h 0));rw[Bh 0 (by omega),Bl 0 (by omega),b0];unfold kindOf;split;(· exact Uv);(· exact Uw)
  ·show uK (nth _ (ai c h 0))=_
   rw[Bh 0 (by omega),Bl 0 (by omega),b0]
   unfold kindOf
   by_cases h0:ls.length=0
   ·rw[if_pos h0,if_pos (hsm.2 h0)];rfl
   ·rw[if_neg h0,if_neg (fun hs=>h0 (hsm.1 hs))];rfl
  ·have hj':j<ls.length:=by simpa[iA] using hj
   show nth _ (ai c h (8+j))=_
   rw[Bh _ (by omega),Bn j hj']
   simp[iA,List.getD,hj']
 refine⟨⟨?_,fun o ho=> ?_,?_⟩,?_,fun v h3 h8=> ?_,fun i hi=> ?_,fun i h3 hi=> ?_⟩
 ·refine dx.owned ?_ hm (fun j hj=>hnp _ (List.mem_cons_of_mem _ (hget j hj))) _ (Nat.le_refl _)
  exact(D1.only hm (hnp h (by simp)) hHo).only hm (hnp h (by simp)) hNo
 ·rcases List.mem_append.1 ho with ho|ho
  ·have hA':=H.bZ o ho
   have g:∀b v,b∈o.blocks→v<c.W→nth (lU c h ls ls.length Nm) (ai c b v)=nth zs (ai c b v):=fun b v hbo hv=>by
    have hne:∀x,x∈h::ls→¬jN c x (ai c b v):=fun x hx=>jw (fun e=>hno b o ho hbo (by rw[e];exact hx)) hv
    rw[A _ hne,D3 _ (BC _ _ _) hne]
   have hl:=hA'.OA hm
   have hhm:o.h∈o.blocks:=by unfold Ob.blocks;simp
   refine hA'.congr ?_ ?_ ?_ (fun j hj=> ?_) (fun b hb'=> ?_)
   ·rw[g _ 0 hhm (by omega)];exact⟨hA'.tok,rfl⟩
   ·exact g _ 1 hhm (by omega)
   ·exact g _ 2 hhm (by omega)
   ·exact g _ (8+j) hhm (by omega)
   ·exact g _ 0 (by unfold Ob.blocks;exact List.mem_cons_of_mem _ (Ob.bQ.2 hb')) (by omega)
  ·rw[List.mem_singleton.1 ho];exact hObj
 ·have hp:=H.perm
  rw[List.flatMap_append,List.flatMap_cons,List.flatMap_nil,List.append_nil,hblk,←List.append_assoc]
  refine List.Perm.trans List.perm_append_comm ?_
  rw[←List.append_assoc]
  exact hp
 ·show nth _ (ai c h 0)=_
  rw[Bh 0 (by omega),Bl 0 (by omega),b0]
  unfold kindOf
  by_cases h0:ls.length=0
  ·rw[if_pos h0,if_pos (hsm.2 h0)]
  ·rw[if_neg h0,if_neg (fun hs=>h0 (hsm.1 hs))]
 ·show nth _ (ai c h v)=0
  rw[Bh v (by omega),Bl v h8,b3 v h3 (by omega),Bz v h3 (by omega)]
 ·by_cases hs:(iA h p d ls).f≤c.W-8
  ·have h0:=hsm.1 hs
   have hi':8+i<c.W:=by omega
   unfold iw bg
   rw[kT hs]
   show nth _ (ai c h (8+i))=0
   have hN0:nth Nm (ai c h (8+i))=nth Hd (ai c h (8+i)):=by
    rw[←eN]
    exact uT c h ls Hd _ _ (fun j hj e=>by omega)
   rw[Bh _ hi',hN0,b3 _ (by omega) hi',Bz _ (by omega) hi']
  ·have hpl:=hObj.place hm hs hi
   have hpl':i/(c.W-1)<ls.length:=by simpa[iA] using hpl
   have hg:(iA h p d ls).lv[i/(c.W-1)]? =some (ls[i/(c.W-1)]+1):=by simp[iA,hpl']
   unfold iw bg
   rw[lK hs hg]
   have:=Nat.mod_lt i (show 0<c.W-1 by omega)
   exact C1 _ _ (List.getElem_mem hpl') (by omega) (by omega)
 ·rw[hblk] at hi
  rw[A i hi,D3 i h3 hi]
theorem Ar:∀(os:List Ob),(os.map Ob.h).Sublist (os.flatMap Ob.blocks)
 |[]=>by simp
 |x::t=>by
  rw[List.map_cons,List.flatMap_cons]
  unfold Ob.blocks
  exact(List.Sublist.trans (Ar t) (List.sublist_append_right _ _)).cons_cons x.h
theorem aj.Rc{c:Cf}{zs:List Int}{pool:List Nat}{os:List Ob}(h:aj c zs pool os):(os.map Ob.h).Nodup:=h.nodupB.sublist (Ar os)
theorem aj.split{c:Cf}{zs:List Int}{pool:List Nat}{os:List Ob}{o:Ob}(h:aj c zs pool os)(ho:o∈os):∃s t,os=s++o::t∧(∀x,x∈s→x.h≠o.h)∧(∀x,x∈t→x.h≠o.h):=by
 obtain⟨s,t,rfl⟩:=List.append_of_mem ho
 have hn:=h.Rc
 rw[List.map_append,List.map_cons,List.nodup_append] at hn
 obtain⟨n1,n2,n3⟩:=hn
 refine⟨s,t,rfl,fun x hx e=>n3 x.h (List.mem_map_of_mem hx) o.h (by simp) e,fun x hx e=>(List.nodup_cons.1 n2).1 (by rw[←e];exact List.mem_map_of_mem hx)⟩
theorem Ay{os:List Ob}{f:Ob→Ob}(h:∀x,x∈os→f x=x):os.map f=os:=by
 induction os with
 |nil=>rfl
 |cons x t ih=>rw[List.map_cons,h x (by simp),ih (fun y hy=>h y (by simp[hy]))]
theorem sM{os:List Ob}{f:Ob→Bool}(h:∀x,x∈os→f x=true):os.filter f=os:=List.filter_eq_self.2 h
theorem Gf{o:Ob}{j b:Nat}(hj:o.lv[j]? =some (b+1)):o.leaves.Perm (b::(oI o j).leaves):=by
 unfold Ob.leaves oI
 have hlt:j<o.lv.length:=(List.getElem?_eq_some_iff.1 hj).1
 have he:o.lv=o.lv.take j++(b+1)::o.lv.drop (j+1):=by
  have h1:=(List.take_append_drop j o.lv).symm
  rw[List.drop_eq_getElem_cons hlt] at h1
  rw[(List.getElem?_eq_some_iff.1 hj).2] at h1
  exact h1
 have hs:o.lv.set j 0=o.lv.take j++0::o.lv.drop (j+1):=List.set_eq_take_append_cons_drop▸by rw[if_pos hlt]
 show(o.lv.filterMap _).Perm (b::(o.lv.set j 0).filterMap _)
 rw[hs]
 conv=>lhs;rw[he]
 rw[List.filterMap_append,List.filterMap_append,List.filterMap_cons,List.filterMap_cons]
 simp only[Nat.add_eq_zero_iff,Nat.one_ne_zero,and_false,if_false,if_true,Nat.add_sub_cancel]
 exact List.perm_middle
theorem aj.Uu{c:Cf}{zs:List Int}{pool:List Nat}{os:List Ob}{o:Ob}{j b:Nat}(H:aj c zs pool os)(hm:c.May)(hz:zs.length=c.size)(ho:o∈os)(hj:o.lv[j]? =some (b+1)):
  aj c ((bu c b zs).set (ai c o.h (8+j)) 0) (b::pool) (vk os o j)∧∀i,¬i<3→i≠ai c o.h (8+j)→i≠ai c b 0→i≠ai c b 5→nth ((bu c b zs).set (ai c o.h (8+j)) 0) i=nth zs i:=by
 have hw:=hm.w
 have hA:=H.bZ o ho
 have hlW:=hA.OA hm
 have hjl:j<o.lv.length:=(List.getElem?_eq_some_iff.1 hj).1
 have hbl:b∈o.leaves:=Ob.bQ.2 (List.mem_of_getElem? hj)
 have hbb:b∈o.blocks:=by unfold Ob.blocks;exact List.mem_cons_of_mem _ hbl
 have hhb:o.h∈o.blocks:=by unfold Ob.blocks;simp
 have hne:o.h≠b:=fun e=>(List.nodup_cons.1 (H.ownB ho)).1 (by rw[e];exact hbl)
 have hbN:=H.lt ho hbb
 have hbp:=H.mJ ho hbb
 have hzg:(bu c b zs).length=c.size:=by rw[uY,hz]
 have out:∀i,¬i<3→i≠ai c o.h (8+j)→i≠ai c b 0→i≠ai c b 5→nth ((bu c b zs).set (ai c o.h (8+j)) 0) i=nth zs i:=fun i h3 h1 h2 h5=>by
  rw[av (fun e=>h1 e.symm),oz hm hz h2 h5 h3]
 have outA:∀x v,v<c.W→x≠b→(x≠o.h∨v≠8+j)→nth ((bu c b zs).set (ai c o.h (8+j)) 0) (ai c x v)=nth zs (ai c x v):=fun x v hv hx h1=>
  out _ (BC _ _ _) (fun e=>by
   have:=aH hv (by omega) e
   rcases h1 with h1|h1
   ·exact h1 this.1
   ·exact h1 this.2) (fun e=>hx (aH hv (by omega) e).1) (fun e=>hx (aH hv (by omega) e).1)
 obtain⟨s,t,hst,hs,ht⟩:=H.split ho
 have hos:vk os o j=s++oI o j::t:=by
  unfold vk
  rw[hst,List.map_append,List.map_cons,Ay (fun x hx=>if_neg (hs x hx)),Ay (fun x hx=>if_neg (ht x hx)),if_pos rfl]
 have old:∀x,x∈os→x.h≠o.h→jM c ((bu c b zs).set (ai c o.h (8+j)) 0) x:=fun x hx hxh=>by
  have hA':=H.bZ x hx
  have hnb:∀y,y∈x.blocks→y≠b∧y≠o.h:=fun y hy=>⟨fun e=>hxh (by rw[H.own hx ho hy (by rw[e];exact hbb)]),fun e=>hxh (by rw[H.own hx ho hy (by rw[e];exact hhb)])⟩
  have hxm:x.h∈x.blocks:=by unfold Ob.blocks;simp
  have hl:=hA'.OA hm
  have g:∀y v,y∈x.blocks→v<c.W→_:=fun y v hy hv=>outA y v hv (hnb y hy).1 (.inl (hnb y hy).2)
  refine hA'.congr ?_ (g _ 1 hxm (by omega)) (g _ 2 hxm (by omega)) (fun k hk=>g _ (8+k) hxm (by omega)) (fun y hy=>g _ 0 (by unfold Ob.blocks;exact List.mem_cons_of_mem _ (Ob.bQ.2 hy)) (by omega))
  rw[g _ 0 hxm (by omega)];exact⟨hA'.tok,rfl⟩
 have new:jM c ((bu c b zs).set (ai c o.h (8+j)) 0) (oI o j):=by
  have hset:∀y,y+1∈o.lv.set j 0→y+1∈o.lv∧y≠b:=fun y hy=>by
   obtain⟨k,hk,e⟩:=List.getElem_of_mem hy
   have hk':k<o.lv.length:=by simpa using hk
   rw[List.getElem_set] at e
   by_cases ekj:j=k
   ·rw[if_pos ekj] at e;omega
   ·rw[if_neg ekj] at e
    refine⟨by rw[←e];exact List.getElem_mem hk',fun eb=>ekj ?_⟩
    subst eb
    exact uP (List.nodup_cons.1 (H.ownB ho)).2 hj (List.getElem?_eq_some_iff.2 ⟨hk',e⟩)
  refine⟨hA.hlt,fun y hy=>hA.llt y (hset y hy).1,?_,?_,hA.size,by show(((o.lv.set j 0).length:Nat):Int)=_;rw[List.length_set];exact hA.lvs,?_,?_,fun k hk=> ?_,fun y hy=> ?_⟩
  ·show nth _ (ai c o.h 1)=_;rw[outA o.h 1 (by omega) hne (.inr (by omega))];exact hA.w1
  ·show nth _ (ai c o.h 2)=_;rw[outA o.h 2 (by omega) hne (.inr (by omega))];exact hA.w2
  ·show ek (nth _ (ai c o.h 0));rw[outA o.h 0 (by omega) hne (.inr (by omega))];exact hA.tok
  ·show uK (nth _ (ai c o.h 0))=_;rw[outA o.h 0 (by omega) hne (.inr (by omega))];exact hA.kind
  ·have hk':k<o.lv.length:=by simpa[oI] using hk
   show nth _ (ai c o.h (8+k))=(((o.lv.set j 0)[k]'(by simpa using hk'):Nat):Int)
   rw[List.getElem_set]
   by_cases e:j=k
   ·subst e
    rw[if_pos rfl,bf (by rw[hzg];exact gB hA.hlt (by omega))]
    rfl
   ·rw[if_neg e,outA o.h (8+k) (by omega) hne (.inr (by omega))]
    exact hA.own k hk'
  ·obtain⟨y1,y2⟩:=hset y hy
   have hyh:y≠o.h:=fun e=>(List.nodup_cons.1 (H.ownB ho)).1 (by rw[←e];exact Ob.bQ.2 y1)
   show nth _ (ai c y 0)=_
   rw[outA y 0 (by omega) y2 (.inl hyh)]
   exact hA.leaf y y1
 refine⟨⟨?_,fun x hx=> ?_,?_⟩,out⟩
 ·refine(dx.give H.pl hm hz hbN hbp).1.only hm (b:=o.h) ?_ (cB.set (by omega) 0)
  intro hx
  rcases List.mem_cons.1 hx with e|hx
  ·exact hne e
  ·exact H.mJ ho hhb hx
 ·rw[hos] at hx
  rcases List.mem_append.1 hx with hx|hx
  ·exact old x (by rw[hst];exact List.mem_append_left _ hx) (hs x hx)
  ·rcases List.mem_cons.1 hx with rfl|hx
   ·exact new
   ·exact old x (by rw[hst];exact List.mem_append_right _ (List.mem_cons_of_mem _ hx)) (ht x hx)
 ·have hp:=H.perm
  rw[hos]
  rw[hst] at hp
  refine List.Perm.trans ?_ hp
  rw[List.cons_append]
  refine List.Perm.trans List.perm_middle.symm ?_
  refine List.Perm.append_left pool ?_
  rw[List.flatMap_append,List.flatMap_append,List.flatMap_cons,List.flatMap_cons]
  refine List.Perm.trans List.perm_middle.symm ?_
  refine List.Perm.append_left _ ?_
  rw[←List.cons_append]
  refine List.Perm.append_right _ ?_
  show(b::o.h::(oI o j).leaves).Perm (o.h::o.leaves)
  exact(List.Perm.swap _ _ _).trans ((Gf hj).symm.cons o.h)
theorem aj.ended{c:Cf}{zs:List Int}{pool:List Nat}{os:List Ob}{o:Ob}(H:aj c zs pool os)(hm:c.May)(hz:zs.length=c.size)(ho:o∈os)(hl:o.leaves=[]):
  aj c (bu c o.h zs) (o.h::pool) (os.filter (fun x=>x.h !=o.h))∧∀i,¬i<3→i≠ai c o.h 0→i≠ai c o.h 5→nth (bu c o.h zs) i=nth zs i:=by
 have hw:=hm.w
 have hhb:o.h∈o.blocks:=by unfold Ob.blocks;simp
 have hbN:=H.lt ho hhb
 have hbp:=H.mJ ho hhb
 obtain⟨s,t,hst,hs,ht⟩:=H.split ho
 have hos:os.filter (fun x=>x.h !=o.h)=s++t:=by
  rw[hst,List.filter_append,List.filter_cons,sM (fun x hx=>by simpa using hs x hx),sM (fun x hx=>by simpa using ht x hx)]
  simp
 refine⟨⟨(dx.give H.pl hm hz hbN hbp).1,fun x hx=> ?_,?_⟩,fun i h3 h0 h5=>oz hm hz h0 h5 h3⟩
 ·obtain⟨hxo,hxh⟩:=List.mem_filter.1 hx
  have hxh:x.h≠o.h:=by simpa using hxh
  have hA':=H.bZ x hxo
  have hnb:∀y,y∈x.blocks→y≠o.h:=fun y hy e=>hxh (by rw[H.own hxo ho hy (by rw[e];exact hhb)])
  have hxm:x.h∈x.blocks:=by unfold Ob.blocks;simp
  have hl:=hA'.OA hm
  have g:∀y v,y∈x.blocks→v<c.W→nth (bu c o.h zs) (ai c y v)=nth zs (ai c y v):=fun y v hy hv=>oz hm hz (fun e=>hnb y hy (aH hv (by omega) e).1) (fun e=>hnb y hy (aH hv (by omega) e).1) (BC _ _ _)
  refine hA'.congr ?_ (g _ 1 hxm (by omega)) (g _ 2 hxm (by omega)) (fun k hk=>g _ (8+k) hxm (by omega)) (fun y hy=>g _ 0 (by unfold Ob.blocks;exact List.mem_cons_of_mem _ (Ob.bQ.2 hy)) (by omega))
  rw[g _ 0 hxm (by omega)];exact⟨hA'.tok,rfl⟩
 ·have hp:=H.perm
  rw[hos]
  rw[hst] at hp
  refine List.Perm.trans ?_ hp
  rw[List.cons_append]
  refine List.Perm.trans List.perm_middle.symm ?_
  refine List.Perm.append_left pool ?_
  rw[List.flatMap_append,List.flatMap_append,List.flatMap_cons]
  refine List.Perm.trans List.perm_middle.symm ?_
  refine List.Perm.append_left _ ?_
  have e:o.blocks=[o.h]:=by unfold Ob.blocks;rw[hl]
  rw[e]
  exact List.Perm.refl _
def Ni(c:Cf)(zs:List Int)(k:Int):Prop:=¬(k=0∨k=1)∨∃j:Nat,k=(j:Int)∧j<2∧aV c zs j []
def Bt(w:World)(l:List Nat)(e:Ending)(w':World):Prop:=
 ∃a cap,e=.returned (.slice a l.length cap)∧Row w' .i64 a (ints l)∧(∀b off,a=some ⟨b,off,none⟩→w.heap.size≤b)∧Below w.heap.size w w'
theorem dQ.ints{w w':World}{l:List Nat}{zs:List Int}{e:Ending}(h:dQ w zs e w')(hz:zs=Pk.ints l):Bt w l e w':=by
 subst hz
 obtain⟨a,cap,h1,h2,h3,h4⟩:=h
 rw[aC] at h1
 exact⟨a,cap,h1,h2,h3,h4⟩
theorem uE(p:Pl)(c:Cf)(s:St)(b:Int)(w:World)(hG:G w p c s):
  Calls Tryz.prog 201 #[.pointer (some ⟨p.a,0,none⟩),.int .i64 b] w fun e w'=>e=.returned (.bool (kR b c.N))∧Below w.heap.size w w':=by
 have HG:=hid hG
 have hfd:=dM (c.N:Int) (c.W:Int) (c.R:Int) (c.K:Int)
 clear hG
 by_cases h:0≤b
 ·have E:Hid (decide (b<(c.N:Int))=kR b c.N):=hid (by unfold kR;simp[h])
  go_enter Tryz.func201,Tryz.ntmps201
  go_wp2_with fail
  refine(dH p c s _ HG.out).mono ?_
  rintro e w1 ⟨rfl,hb⟩
  have HB:=hid hb
  clear hb
  go_wp2_with fail
  go_ret
  exact⟨aJ E.out,HB.out⟩
 ·have E:Hid (kR b c.N=false):=hid (by unfold kR;simp[h])
  have h':b<0:=by omega
  go_enter Tryz.func201,Tryz.ntmps201
  go_wp2_with fail
  go_ret
  exact⟨aJ E.out.symm,Below.refl _ _⟩
theorem mE(p:Pl)(k:Nat)(w:World)(hk:k<2):
  Calls Tryz.prog 156 #[.pointer (some ⟨p.a,0,none⟩),.int .i64 (k:Int)] w fun e w'=>e=.returned (.tuple #[.int .i64 ((3*k:Nat):Int),.bool true])∧w=w':=by
 have hk2:k=0∨k=1:=by omega
 rcases hk2 with rfl|rfl
 all_goals
  go_enter Tryz.func156,Tryz.ntmps156
  go_wp2_with fail
  go_ret2
  exact⟨rfl,rfl⟩
theorem Ic(p:Pl)(k:Int)(w:World)(hk:¬(k=0∨k=1)):
  Calls Tryz.prog 156 #[.pointer (some ⟨p.a,0,none⟩),.int .i64 k] w fun e w'=>e=.returned (.tuple #[.int .i64 0,.bool false])∧w=w':=by
 by_cases h:0≤k
 ·have h2:2≤k:=by omega
  clear hk
  go_enter Tryz.func156,Tryz.ntmps156
  go_wp2_with fail
  go_ret2
  exact⟨rfl,rfl⟩
 ·have h2:k<0:=by omega
  clear hk h
  go_enter Tryz.func156,Tryz.ntmps156
  go_wp2_with fail
  go_ret2
  exact⟨rfl,rfl⟩
theorem Ea(p:Pl)(c:Cf)(s:St)(b:Nat)(x:Int)(w:World)(hG:G w p c s)(hb:b<c.N)(hx:x=(b:Int)+1):
  Calls Tryz.prog 163 #[.pointer (some ⟨p.a,0,none⟩),.int .i64 x] w fun e w'=>e=.returned (.tuple #[.int .i64 (b:Int),.bool true])∧Below w.heap.size w w':=by
 subst hx
 have HG:=hid hG
 have hN:=hG.may.n
 have E:=hid (jP hb)
 have e1:IntKind.i64.wrap ((b:Int)+1-1)=(b:Int):=by rw[Int.add_sub_cancel];exact IntWalk.i64_in _ (by omega)
 clear hG
 go_enter Tryz.func163,Tryz.ntmps163
 go_wp2_with fail
 refine(uE p c s _ _ HG.out).mono ?_
 rw[E.out]
 rintro e w1 ⟨rfl,hb1⟩
 have HB:=hid hb1
 clear hb1
 go_wp2_with fail
 go_ret2
 exact⟨rfl,HB.out⟩
theorem Ae(p:Pl)(c:Cf)(s:St)(w:World)(hG:G w p c s):
  Calls Tryz.prog 163 #[.pointer (some ⟨p.a,0,none⟩),.int .i64 0] w fun e w'=>e=.returned (.tuple #[.int .i64 0,.bool false])∧Below w.heap.size w w':=by
 have HG:=hid hG
 clear hG
 have E:Hid (kR (-1) c.N=false):=hid (by unfold kR;simp)
 go_enter Tryz.func163,Tryz.ntmps163
 go_wp2_with fail
 refine(uE p c s (-1) _ HG.out).mono ?_
 rw[E.out]
 rintro e w1 ⟨rfl,hb1⟩
 have HB:=hid hb1
 clear hb1
 go_wp2_with fail
 go_ret2
 exact⟨rfl,HB.out⟩
theorem DZ(p:Pl)(c:Cf)(s:St)(k b:Nat)(l:List Nat)(w:World)(hG:G w p c s)(hC:aV c s.zs k (b::l))(hk:k<2):
  Calls Tryz.prog 92 #[.pointer (some ⟨p.a,0,none⟩),.int .i64 (k:Int)] w (GP w p c s.got (.tuple #[.int .i64 (b:Int),.bool true])):=by
 have HG:=hid hG
 have H0:=hid (hC.r0.trans (show kJ (b::l)=(b:Int)+1 from rfl))
 have hb:=hC.lt b (by simp)
 have HR:=hid (mE p k w hk)
 have e1:IntKind.i64.wrap (((3*k:Nat):Int)+0)=((3*k:Nat):Int):=by rw[Int.add_zero];exact IntWalk.i64_in _ (by omega)
 clear hG hC
 go_enter Tryz.func92,Tryz.ntmps92
 go_wp2_with fail
 refine HR.out.mono ?_
 rintro e w1 ⟨rfl,rfl⟩
 go_wp2_with fail
 refine(iR p c s (3*k) _ _ _ HG.out (by omega) (by first|rfl|exact e1) H0.out).mono ?_
 rintro e w1 ⟨rfl,hG1,hT1⟩
 have HG1:=hid hG1
 have HT1:=hid hT1
 clear hG1 hT1
 go_wp2_with fail
 refine(Ea p c s.got b _ _ HG1.out hb rfl).mono ?_
 rintro e w2 ⟨rfl,hb2⟩
 have HG2:=hid (HG1.out.later hb2)
 have HT2:=hid (HT1.out.trans (Touch.of_below hb2))
 clear hb2
 go_wp2_with fail
 go_ret2
 exact⟨rfl,HG2.out,HT2.out⟩
end Go.Proofs.YtjmifnljckmimaaGreat.Pk
