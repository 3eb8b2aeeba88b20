/-
  Texts laid together: Base, NumMath, PackFn, TagMath, ShapeMath.
-/
import Derived.WalkKit
import Derived.WalkSpells
import Derived.WalkLawsBesides
import Derived.Deep.QuietTactic
import Derived.BigQuiet
import Derived.Lib.Hide
import Derived.Laws.NewBlocks
import Derived.OneCell
import Derived.Laws.MakeOwn
import Derived.Laws.OwnMore
import Derived.Test.YtbhhfnlkpieebaaGreatProg
import Derived.IntWalk
namespace Go.Proofs.YtbhhfnlkpieebaaGreat.Pk
open Go.RowKit
set_option linter.unusedVariables false
set_option linter.unusedSimpArgs false
def nth(zs:List Int)(i:Nat):Int:=zs.getD i 0
def Row(w:World)(k:IntKind)(a:Option Addr)(zs:List Int):Prop:=
 ∀i,i<zs.length→∃b off,a=some ⟨b,off,none⟩∧b<w.heap.size∧w.cell? ⟨b,off+i,none⟩=some (.int k (nth zs i))
theorem Row.nil(w:World)(k:IntKind)(a:Option Addr):Row w k a []:=fun _ h=>absurd h (Nat.not_lt_zero _)
theorem Row.below{w w':World}{k:IntKind}{a:Option Addr}{zs:List Int}{B:Nat}(h:Row w k a zs)(hb:Below B w w')(hB:w.heap.size≤B):Row w' k a zs:=by
 intro i hi
 obtain⟨b,off,ha,hlt,hc⟩:=h i hi
 exact⟨b,off,ha,Nat.lt_of_lt_of_le hlt hb.size,by rw[hb.cell (p:=⟨b,off+i,none⟩) (Nat.lt_of_lt_of_le hlt hB)];exact hc⟩
theorem Row.drewN{w:World}{k:IntKind}{a:Option Addr}{zs:List Int}(h:Row w k a zs)(n:Nat):Row (w.drewN n) k a zs:=by
 intro i hi
 obtain⟨b,off,ha,hlt,hc⟩:=h i hi
 exact⟨b,off,ha,hlt,hc⟩
theorem Row.alloc{w:World}{k:IntKind}{a:Option Addr}{zs:List Int}(h:Row w k a zs)(o:Obj):Row (w.alloc o) k a zs:=
 h.below ((Below.refl w.heap.size w).alloc (Nat.le_refl _) o) (Nat.le_refl _)
theorem Row.later{w w':World}{k:IntKind}{a:Option Addr}{zs:List Int}(h:Row w k a zs)(hb:Below w.heap.size w w'):Row w' k a zs:=h.below hb (Nat.le_refl _)
theorem au{w w1 w2:World}(h:Below w.heap.size w w1)(h2:Below w1.heap.size w1 w2):Below w.heap.size w w2:=h.trans (h2.mono h.size)
theorem ai(w:World)(o:Obj):Below w.heap.size w (w.alloc o):=(Below.refl _ _).alloc (Nat.le_refl _) o
theorem jg{w w1:World}(h:Below w.heap.size w w1){p:Addr}(hp:w.heap.size≤p.block)(u:Value):Below w.heap.size w (w1.setCell p u):=h.setCell hp u
theorem tH{w:World}{a:Addr}{v:Value}(h:w.cell? a=some v):a.block<w.heap.size:=by
 by_cases hlt:a.block<w.heap.size
 ·exact hlt
 ·unfold World.cell? at h
  rw[Array.getElem?_eq_none (by omega)] at h
  cases h
theorem wI{w:World}{a:Addr}{v:Value}(h:w.cell? a=some v):a.spot=none:=by
 unfold World.cell? at h
 split at h
 ·split at h
  ·cases h
  ·rename_i hs
   cases hsp:a.spot with
   |none=>rfl
   |some k=>rw[hsp] at hs;exact absurd rfl hs
 ·cases h
theorem AJ{W:World}{k:IntKind}{x:Addr}{len cap:Nat}{zs:List Int}(hl:len≤cap)(hm:cap≤maxLen)(hz:zs.length=cap)
  (hcell:∀i,i<zs.length→W.cell? (x.add i)=some (.int k (zs.getD i 0))) (hwz:∀n∈zs,(Lit.int k n).wf=true):
  ∃es:List Int,len=es.length∧Row W k (some x) es∧(∀n∈es,(Lit.int k n).wf=true)∧len≤maxLen:=by
 refine⟨zs.take len,by simp;omega,?_,fun n hn=>hwz n (List.mem_of_mem_take hn),Nat.le_trans hl hm⟩
 intro i hi
 have hi1:i<len:=by simp at hi;omega
 obtain⟨b,off,spot⟩:=x
 have hs:=wI (hcell 0 (by omega))
 simp[Addr.add] at hs
 subst hs
 have hadd:(⟨b,off,none⟩:Addr).add i=⟨b,off+i,none⟩:=by
  unfold Addr.add
  by_cases h0:i=0
  ·subst h0;rfl
  ·simp[h0]
 have hc:=hcell i (by omega)
 rw[hadd] at hc
 refine⟨b,off,rfl,tH hc,?_⟩
 rw[hc]
 unfold nth
 simp[List.getD,hi1]
def ib(w w':World):Prop:=∃m,w'=w.drewN m
theorem ib.refl(w:World):ib w w:=⟨0,rfl⟩
theorem ib.step{w w':World}(h:ib w w')(n:Nat):ib w (w'.drewN n):=by
 obtain⟨m,rfl⟩:=h;exact⟨m+n,World.drewN_drewN _ _ _⟩
theorem ib.size{w w':World}(h:ib w w'):w'.heap.size=w.heap.size:=by obtain⟨m,rfl⟩:=h;rfl
theorem ib.below{w w':World}(h:ib w w')(B:Nat):Below B w w':=by obtain⟨m,rfl⟩:=h;exact⟨rfl,rfl,rfl,Nat.le_refl _,fun _ _=>rfl⟩
theorem ib.new{w w':World}(h:ib w w'):Below w.heap.size w w':=h.below _
theorem Row.xN{w w':World}{k:IntKind}{a:Option Addr}{zs:List Int}(h:Row w k a zs)(d:ib w w'):Row w' k a zs:=by
 obtain⟨m,rfl⟩:=d;exact h.drewN m
theorem aG{a b:Bool}(h:a=b):Ending.returned (.bool a)=.returned (.bool b):=by rw[h]
theorem bP{k:IntKind}{a b:Int}(h:a=b):Ending.returned (.int k a)=.returned (.int k b):=by rw[h]
theorem Az{P:Program}{f:FuncId}{args:Array Value}{w:World}{n:Nat}{v:Value}
  (h:Calls P f args (w.drewN n) fun e w'=>e=.returned v∧w.drewN n=w'):Calls P f args (w.drewN n) fun e w''=>e=.returned v∧∃m,w''=w.drewN m:=
 h.mono fun _ _ ⟨he,hm⟩=>⟨he,n,hm.symm⟩
theorem Row.jV{w:World}{B:Nat}{e:TypeId}{k:IntKind}{v:Value}{zs:List Int}(h:w.ownsRow B e 1 v zs.length (zs.map (Value.int k))):
  ∃a cap,v=.slice a zs.length cap∧Row w k a zs:=by
 rcases h.2 with⟨h1,h2⟩|⟨g,cap,cur,h1,_,hg,_⟩
 ·refine⟨none,0,by rw[h1,h2],fun i hi=> ?_⟩
  omega
 ·refine⟨some ⟨g,0,none⟩,cap,h1,fun i hi=>⟨g,0,rfl,?_,?_⟩⟩
  ·by_cases hlt:g<w.heap.size
   ·exact hlt
   ·rw[Array.getElem?_eq_none (by omega)] at hg
    cases hg
  ·subst h1
   have hc:=h.cellAt i (by omega)
   rw[Nat.zero_add,hc,List.getElem?_map]
   show Option.map (Value.int k) zs[i]? =some (Value.int k (zs.getD i 0))
   simp[List.getD,hi]
theorem aM{w:World}{B:Nat}{e:TypeId}{size:Nat}{v:Value}{n:Nat}{xs:List Value}(h:w.ownsRow B e size v n xs):∀k,v.ownBlock=some k→B≤k:=by
 intro k hk
 rcases h.2 with⟨h1,_⟩|⟨g,cap,cur,h1,hb,_⟩
 ·subst h1;cases hk
 ·subst h1
  simp[Value.ownBlock] at hk
  omega
theorem Row.lit(w:World)(k:IntKind)(zs:List Int)(t:TypeId):Row (w.alloc (.cells (zs.map (Value.int k)).toArray t)) k (some ⟨w.heap.size,0,none⟩) zs:=by
 intro i hi
 refine⟨w.heap.size,0,rfl,by simp,?_⟩
 rw[Nat.zero_add,World.cell?_alloc_at _ _ _ _ rfl]
 show(zs.map (Value.int k)).toArray[i]? =some (Value.int k (zs.getD i 0))
 simp[List.getD,hi]
theorem Dj{B:Nat}{W w1:World}(hb:Below B W w1):(∀b o,b<B→w1.cell? ⟨b,o,none⟩=W.cell? ⟨b,o,none⟩)∧(∀b o,b<B→w1.frozen? ⟨b,o,none⟩=W.frozen? ⟨b,o,none⟩):=
 ⟨fun b o h=>hb.cell (p:=⟨b,o,none⟩) h,fun b o h=>hb.frozen (p:=⟨b,o,none⟩) h⟩
structure Touch (X:Nat→Prop) (w w':World):Prop where
 os:w'.os=w.os
 tape:w'.tape=w.tape
 output:w'.output=w.output
 size:w.heap.size≤w'.heap.size
 block:∀k,k<w.heap.size→¬X k→w'.heap[k]? =w.heap[k]?
theorem Touch.refl(X:Nat→Prop)(w:World):Touch X w w:=⟨rfl,rfl,rfl,Nat.le_refl _,fun _ _ _=>rfl⟩
theorem Touch.trans{X:Nat→Prop}{a b c:World}(h:Touch X a b)(k:Touch X b c):Touch X a c:=
 ⟨k.os.trans h.os,k.tape.trans h.tape,k.output.trans h.output,Nat.le_trans h.size k.size,fun i hi hx=>(k.block i (Nat.lt_of_lt_of_le hi h.size) hx).trans (h.block i hi hx)⟩
theorem Touch.mono{X Y:Nat→Prop}{w w':World}(h:Touch X w w')(hXY:∀k,k<w.heap.size→X k→Y k):Touch Y w w':=
 ⟨h.os,h.tape,h.output,h.size,fun k hk hy=>h.block k hk fun hx=>hy (hXY k hk hx)⟩
theorem Touch.of_below{X:Nat→Prop}{w w':World}(h:Below w.heap.size w w'):Touch X w w':=⟨h.os,h.tape,h.output,h.size,fun k hk _=>h.block k hk⟩
theorem Touch.below{X:Nat→Prop}{w w':World}{B:Nat}(h:Touch X w w')(hX:∀k,X k→B≤k)(hB:B≤w.heap.size):Below B w w':=
 ⟨h.os,h.tape,h.output,h.size,fun k hk=>h.block k (by omega) fun hx=>by have:=hX k hx;omega⟩
theorem Touch.alloc{X:Nat→Prop}{a w:World}(h:Touch X a w)(o:Obj):Touch X a (w.alloc o):=
 ⟨h.os,h.tape,h.output,by have:=h.size;simp;omega,fun k hk hx=>(Below.heap_alloc _ _ _ (Nat.lt_of_lt_of_le hk h.size)).trans (h.block k hk hx)⟩
theorem Touch.setCell{X:Nat→Prop}{a w:World}(h:Touch X a w){p:Addr}(hp:p.block<a.heap.size→X p.block)(u:Value):Touch X a (w.setCell p u):=
 ⟨h.os,h.tape,h.output,by have:=h.size;simpa[World.setCell] using this,fun k hk hx=>(Below.heap_setCell _ _ _ _ (fun e=>by subst e;exact hx (hp hk))).trans (h.block k hk hx)⟩
theorem Touch.drewN{X:Nat→Prop}{a w:World}(h:Touch X a w)(n:Nat):Touch X a (w.drewN n):=⟨h.os,h.tape,h.output,h.size,h.block⟩
theorem Touch.drew{X:Nat→Prop}{a w:World}(h:Touch X a w):Touch X a w.drew:=⟨h.os,h.tape,h.output,h.size,h.block⟩
theorem Touch.cell{X:Nat→Prop}{w w':World}(h:Touch X w w'){p:Addr}(hp:p.block<w.heap.size)(hx:¬X p.block):w'.cell? p=w.cell? p:=World.cell?_of_block (w:=w) (h.block p.block hp hx)
theorem Touch.oO{X:Nat→Prop}{w w':World}(h:Touch X w.drew w'):Touch X w w':=⟨h.os,h.tape,h.output,h.size,h.block⟩
theorem Touch.Ef{X:Nat→Prop}{w w':World}{n:Nat}(h:Touch X (w.drewN n) w'):Touch X w w':=⟨h.os,h.tape,h.output,h.size,h.block⟩
def aL(w:World)(b:Nat)(cs:Array Value)(t:TypeId):Prop:=w.heap[b]? =some (.cells cs t (0,0))
theorem aL.lt{w:World}{b:Nat}{cs:Array Value}{t:TypeId}(h:aL w b cs t):b<w.heap.size:=lt_of_block h
theorem aL.cell{w:World}{b:Nat}{cs:Array Value}{t:TypeId}(h:aL w b cs t)(i:Nat){v:Value}(hv:cs[i]? =some v):w.cell? ⟨b,i,none⟩=some v:=by
 unfold aL at h
 simp[World.cell?,h,hv]
theorem aL.free{w:World}{b:Nat}{cs:Array Value}{t:TypeId}(h:aL w b cs t)(i:Nat):w.frozen? ⟨b,i,none⟩=false:=by
 unfold aL at h
 simp[World.frozen?,h]
theorem aL.new(w:World)(cs:Array Value)(t:TypeId):aL (w.alloc (.cells cs t)) w.heap.size cs t:=by
 show(w.heap.push _)[w.heap.size]? =_
 simp
theorem aL.alloc{w:World}{b:Nat}{cs:Array Value}{t:TypeId}(h:aL w b cs t)(o:Obj):aL (w.alloc o) b cs t:=(Below.heap_alloc _ _ _ h.lt).trans h
theorem aL.drewN{w:World}{b:Nat}{cs:Array Value}{t:TypeId}(h:aL w b cs t)(n:Nat):aL (w.drewN n) b cs t:=h
theorem aL.drew{w:World}{b:Nat}{cs:Array Value}{t:TypeId}(h:aL w b cs t):aL w.drew b cs t:=h
theorem aL.other{w:World}{b:Nat}{cs:Array Value}{t:TypeId}(h:aL w b cs t){p:Addr}(hp:p.block≠b)(v:Value):aL (w.setCell p v) b cs t:=(Below.heap_setCell _ _ _ _ (Ne.symm hp)).trans h
theorem aL.set{w:World}{b:Nat}{cs:Array Value}{t:TypeId}(h:aL w b cs t)(i:Nat)(v:Value):aL (w.setCell ⟨b,i,none⟩ v) b (cs.setIfInBounds i v) t:=by
 have hlt:=h.lt
 unfold aL at h
 have h':w.heap[b]=.cells cs t (0,0):=by simpa[Array.getElem?_eq_getElem hlt] using h
 show(w.heap.modify b _)[b]? =_
 rw[Array.getElem?_eq_getElem (by simpa using hlt),Array.getElem_modify_self,h']
 rfl
theorem aL.put{w:World}{b:Nat}{cs cs':Array Value}{t:TypeId}(h:aL w b cs t)(i:Nat)(v:Value)(e:cs.setIfInBounds i v=cs'):aL (w.setCell ⟨b,i,none⟩ v) b cs' t:=e▸h.set i v
theorem aL.touch{X:Nat→Prop}{w w':World}{b:Nat}{cs:Array Value}{t:TypeId}(h:aL w b cs t)(k:Touch X w w')(hx:¬X b):aL w' b cs t:=(k.block b h.lt hx).trans h
theorem aL.below{w w':World}{b B:Nat}{cs:Array Value}{t:TypeId}(h:aL w b cs t)(k:Below B w w')(hb:b<B):aL w' b cs t:=(k.block b hb).trans h
theorem aL.later{w w':World}{b:Nat}{cs:Array Value}{t:TypeId}(h:aL w b cs t)(k:Below w.heap.size w w'):aL w' b cs t:=(k.block b h.lt).trans h
def il(X:Nat→Prop)(a:Option Addr)(zs:List Int):Prop:=0<zs.length→∀b off,a=some ⟨b,off,none⟩→¬X b
theorem Row.touch{X:Nat→Prop}{w w':World}{k:IntKind}{a:Option Addr}{zs:List Int}(h:Row w k a zs)(t:Touch X w w')(hx:il X a zs):Row w' k a zs:=by
 intro i hi
 obtain⟨b,off,ha,hlt,hc⟩:=h i hi
 exact⟨b,off,ha,Nat.lt_of_lt_of_le hlt t.size,(t.cell (p:=⟨b,off+i,none⟩) hlt (hx (by omega) b off ha)).trans hc⟩
theorem il.mono{X Y:Nat→Prop}{a:Option Addr}{zs:List Int}(h:il X a zs)(hXY:∀k,Y k→X k):il Y a zs:=fun h0 b off ha hy=>h h0 b off ha (hXY b hy)
theorem Row.out{w:World}{k:IntKind}{a:Option Addr}{zs:List Int}(h:Row w k a zs){X:Nat→Prop}(hX:∀k,X k→w.heap.size≤k):il X a zs:=by
 intro h0 b off ha hx
 obtain⟨b',off',ha',hlt,_⟩:=h 0 h0
 rw[ha] at ha'
 cases ha'
 have:=hX b hx
 omega
def qz(f:Nat→Value)(n:Nat):Array Value:=((List.range n).map f).toArray
theorem Gb{f:Nat→Value}{n i:Nat}(h:i<n):(qz f n)[i]? =some (f i):=by simp[qz,h]
theorem Gc(f:Nat→Value)(n i:Nat)(v:Value):(qz f n).setIfInBounds i v=qz (fun j=>if j=i then v else f j) n:=by
 unfold qz
 apply Array.toList_inj.1
 rw[Array.toList_setIfInBounds]
 apply List.ext_getElem
 ·simp
 ·intro j h1 h2
  have hj:j<n:=by simpa using h2
  simp[List.getElem_set]
  by_cases e:i=j
  ·subst e;simp
  ·have:¬j=i:=fun h=>e h.symm
   simp[e,this]
theorem BU{f g:Nat→Value}{n:Nat}(h:∀i,i<n→f i=g i):qz f n=qz g n:=by
 unfold qz
 congr 1
 exact List.map_congr_left (fun i hi=>h i (List.mem_range.1 hi))
def dH(w:World)(k:IntKind)(a:Option Addr)(zs:List Int):Prop:=
 zs.length=0∨∃b cs t,a=some ⟨b,0,none⟩∧aL w b cs t∧∀i,i<zs.length→cs[i]? =some (.int k (nth zs i))
theorem dH.row{w:World}{k:IntKind}{a:Option Addr}{zs:List Int}(h:dH w k a zs):Row w k a zs:=by
 intro i hi
 rcases h with h|⟨b,cs,t,rfl,hb,hc⟩
 ·omega
 ·exact⟨b,0,rfl,hb.lt,by rw[Nat.zero_add];exact hb.cell i (hc i hi)⟩
theorem dH.later{w w':World}{k:IntKind}{a:Option Addr}{zs:List Int}(h:dH w k a zs)(hb:Below w.heap.size w w'):dH w' k a zs:=by
 rcases h with h|⟨b,cs,t,rfl,hk,hc⟩
 ·exact .inl h
 ·exact .inr ⟨b,cs,t,rfl,hk.later hb,hc⟩
theorem dH.xN{w w':World}{k:IntKind}{a:Option Addr}{zs:List Int}(h:dH w k a zs)(hb:ib w w'):dH w' k a zs:=h.later hb.new
theorem dH.alloc{w:World}{k:IntKind}{a:Option Addr}{zs:List Int}(h:dH w k a zs)(o:Obj):dH (w.alloc o) k a zs:=h.later (ai w o)
theorem dH.touch{X:Nat→Prop}{w w':World}{k:IntKind}{a:Option Addr}{zs:List Int}(h:dH w k a zs)(t:Touch X w w')(hx:il X a zs):dH w' k a zs:=by
 rcases h with h|⟨b,cs,t',rfl,hk,hc⟩
 ·exact .inl h
 ·by_cases h0:zs.length=0
  ·exact .inl h0
  ·exact .inr ⟨b,cs,t',rfl,hk.touch t (hx (by omega) b 0 rfl),hc⟩
theorem dH.set{w:World}{k:IntKind}{zs:List Int}{b i:Nat}(h:dH w k (some ⟨b,0,none⟩) zs)(hi:i<zs.length)(v:Int):dH (w.setCell ⟨b,i,none⟩ (.int k v)) k (some ⟨b,0,none⟩) (zs.set i v):=by
 rcases h with h|⟨b',cs,t,e,hk,hc⟩
 ·omega
 ·cases e
  refine .inr ⟨b,_,t,rfl,hk.set i (.int k v),fun j hj=> ?_⟩
  have hj':j<zs.length:=by simpa using hj
  have hcj:=hc j hj'
  have hjs:j<cs.size:=(Array.getElem?_eq_some_iff.1 hcj).1
  by_cases e:j=i
  ·subst e
   rw[Array.getElem?_setIfInBounds_self_of_lt hjs]
   unfold nth;simp[List.getD,hi]
  ·rw[Array.getElem?_setIfInBounds_ne (fun h=>e h.symm),hcj]
   unfold nth
   rw[List.getD_eq_getElem?_getD,List.getD_eq_getElem?_getD,List.getElem?_set_ne (fun h=>e h.symm)]
theorem dH.at{w:World}{k:IntKind}{a:Option Addr}{zs:List Int}(h:dH w k a zs){i:Nat}(hi:i<zs.length):∃b,a=some ⟨b,0,none⟩∧b<w.heap.size∧w.cell? ⟨b,i,none⟩=some (.int k (nth zs i))∧w.frozen? ⟨b,i,none⟩=false:=by
 rcases h with h|⟨b,cs,t,rfl,hk,hc⟩
 ·omega
 ·exact⟨b,rfl,hk.lt,hk.cell i (hc i hi),hk.free i⟩
theorem dH.jV{w:World}{B:Nat}{e:TypeId}{k:IntKind}{v:Value}{zs:List Int}(h:w.ownsRow B e 1 v zs.length (zs.map (Value.int k))):∃a cap,v=.slice a zs.length cap∧dH w k a zs:=by
 rcases h.2 with⟨h1,h2⟩|⟨g,cap,cur,h1,_,hg,_,_,_,ht⟩
 ·exact⟨none,0,by rw[h1,h2],.inl h2⟩
 ·refine⟨some ⟨g,0,none⟩,cap,h1,.inr ⟨g,cur,e,rfl,hg,fun i hi=> ?_⟩⟩
  have:(cur.toList.take (zs.length*1))[i]? =(zs.map (Value.int k))[i]? :=by rw[ht]
  rw[List.getElem?_take,if_pos (by omega),List.getElem?_map] at this
  rw[←Array.getElem?_toList,this]
  unfold nth
  simp[List.getD,hi]
def jr(n lo hi:Int):Int:=if hi<n then hi else if n<lo then lo else n
def cnt(n:Int):Int:=jr n 0 1125899906842624
def FE(n:Int):Int:=if cnt n=0 then 1 else cnt n
def gW(a b:Int):Int:=if 0<b∧1125899906842624/b<a then 1125899906842624 else a*b
def Gq(a b:Int):Int:=cnt a/FE b
def MC(a b:Int):Int:=(cnt a+FE b-1)/FE b
theorem dQ(n:Int):0≤cnt n∧cnt n≤1125899906842624:=by
 unfold cnt jr;split
 ·omega
 ·split<;>omega
theorem gy{n:Int}(h0:0≤n)(h1:n≤1125899906842624):cnt n=n:=by
 unfold cnt jr;rw[if_neg (by omega),if_neg (by omega)]
theorem KX{n:Int}(h1:n≤0):cnt n=0:=by
 unfold cnt jr;rw[if_neg (by omega)];split
 ·rfl
 ·omega
theorem nK(n:Int):cnt n=max 0 (min n 1125899906842624):=by
 unfold cnt jr;split
 ·omega
 ·split<;>omega
theorem Gh(n:Int):1≤FE n∧FE n≤1125899906842624:=by
 have:=dQ n
 unfold FE;split<;>omega
theorem Jo(n:Int):FE n=max (cnt n) 1:=by
 have:=dQ n
 unfold FE;split<;>omega
theorem kP{a b:Int}(ha:0≤a)(hb:0≤b)(ha2:a≤1125899906842624)(hb2:b≤1125899906842624):gW a b=min 1125899906842624 (a*b):=by
 unfold gW
 by_cases h:0<b∧1125899906842624/b<a
 ·rw[if_pos h]
  have h1:=Int.emod_add_mul_ediv 1125899906842624 b
  have h2:=Int.emod_lt_of_pos 1125899906842624 h.1
  have h3:b*(1125899906842624/b+1)≤b*a:=Int.mul_le_mul_of_nonneg_left (by omega) hb
  rw[Int.mul_add,Int.mul_comm b a] at h3
  omega
 ·rw[if_neg h]
  by_cases hb0:b=0
  ·subst hb0;rw[Int.mul_zero];decide
  ·have hp:0<b:=by omega
   have h4:a≤1125899906842624/b:=by
    by_cases h5:1125899906842624/b<a
    ·exact absurd ⟨hp,h5⟩ h
    ·omega
   have h5:b*a≤b*(1125899906842624/b):=Int.mul_le_mul_of_nonneg_left h4 hb
   have h6:=Int.mul_ediv_self_le (x:=1125899906842624) (k:=b) (by omega)
   rw[Int.mul_comm b a] at h5
   omega
theorem IM{a b:Int}(ha:0≤a)(hb:0≤b)(ha2:a≤1125899906842624)(hb2:b≤1125899906842624):0≤gW a b∧gW a b≤1125899906842624:=by
 rw[kP ha hb ha2 hb2]
 have:=Int.mul_nonneg ha hb
 omega
def gJ(l:List Int):Int:=l.foldl (fun s n=>cnt (s+cnt n)) 0
def jO(l:List Int):Int:=l.foldl (fun s n=>gW s (cnt n)) 1
def og(l:List Int)(k:Nat):Int:=gJ (l.take k)
def oq(l:List Int)(k:Nat):Int:=jO (l.take k)
theorem qg{l:List Int}{k:Nat}(h:k<l.length):l.take (k+1)=l.take k++[nth l k]:=by
 rw[List.take_succ_eq_append_getElem h];unfold nth;simp[List.getD,h]
theorem tq{l:List Int}{k:Nat}(h:k<l.length):og l (k+1)=cnt (og l k+cnt (nth l k)):=by
 unfold og gJ;rw[qg h,List.foldl_append];rfl
theorem wD(l:List Int):og l l.length=gJ l:=by unfold og;rw[List.take_length]
theorem uu{l:List Int}{k:Nat}(h:k<l.length):oq l (k+1)=gW (oq l k) (cnt (nth l k)):=by
 unfold oq jO;rw[qg h,List.foldl_append];rfl
theorem wY(l:List Int):oq l l.length=jO l:=by unfold oq;rw[List.take_length]
def qd:List Int→Int
 |[]=>0
 |n::l=>cnt n+qd l
def kK:List Int→Int
 |[]=>1
 |n::l=>cnt n*kK l
theorem DZ(l:List Int):0≤qd l:=by
 induction l with
 |nil=>exact Int.le_refl _
 |cons n l ih=>have:=dQ n;show 0≤cnt n+qd l;omega
theorem Ap(l:List Int):0≤kK l:=by
 induction l with
 |nil=>decide
 |cons n l ih=>exact Int.mul_nonneg (dQ n).1 ih
theorem AZ(l m:List Int):qd (l++m)=qd l+qd m:=by
 induction l with
 |nil=>show qd m=0+qd m;omega
 |cons n l ih=>show cnt n+qd (l++m)=cnt n+qd l+qd m;rw[ih];omega
theorem yw(l m:List Int):kK (l++m)=kK l*kK m:=by
 induction l with
 |nil=>show kK m=1*kK m;omega
 |cons n l ih=>show cnt n*kK (l++m)=cnt n*kK l*kK m;rw[ih,Int.mul_assoc]
theorem Iw(n:Int):qd [n]=cnt n:=by show cnt n+0=cnt n;omega
theorem EQ(n:Int):kK [n]=cnt n:=by show cnt n*1=cnt n;omega
theorem FX(l:List Int):gJ l=min 1125899906842624 (qd l):=by
 have h:∀k,k≤l.length→og l k=min 1125899906842624 (qd (l.take k)):=by
  intro k
  induction k with
  |zero=>intro _;rfl
  |succ k ih=>
   intro hk
   rw[tq hk,ih (by omega),qg hk,AZ,Iw,nK]
   have h1:=DZ (l.take k)
   have h2:=dQ (nth l k)
   omega
 have:=h l.length (Nat.le_refl _)
 rwa[wD,List.take_length] at this
theorem Di(l:List Int):0≤gJ l∧gJ l≤1125899906842624:=by
 rw[FX];have:=DZ l;omega
theorem FY(l:List Int)(k:Nat):0≤og l k∧og l k≤1125899906842624:=Di _
theorem min_mul{p c:Int}(hp:0≤p)(hc:0≤c):min 1125899906842624 (min 1125899906842624 p*c)=min 1125899906842624 (p*c):=by
 by_cases h:p≤1125899906842624
 ·rw[show min 1125899906842624 p=p by omega]
 ·rw[show min 1125899906842624 p=1125899906842624 by omega]
  by_cases h0:c=0
  ·subst h0;rw[Int.mul_zero,Int.mul_zero]
  ·have h1:1125899906842624*1≤1125899906842624*c:=Int.mul_le_mul_of_nonneg_left (by omega) (by decide)
   have h2:1125899906842624*c≤p*c:=Int.mul_le_mul_of_nonneg_right (by omega) hc
   omega
theorem Cq(l:List Int):∀k,k≤l.length→oq l k=min 1125899906842624 (kK (l.take k)):=by
 intro k
 induction k with
 |zero=>intro _;rfl
 |succ k ih=>
  intro hk
  have h1:=Ap (l.take k)
  have h2:=dQ (nth l k)
  rw[uu hk,ih (by omega),qg hk,yw,EQ,kP (by omega) h2.1 (by omega) h2.2,min_mul h1 h2.1]
theorem EI(l:List Int):jO l=min 1125899906842624 (kK l):=by
 have:=Cq l l.length (Nat.le_refl _)
 rwa[wY,List.take_length] at this
theorem JR(l:List Int):0≤jO l∧jO l≤1125899906842624:=by
 rw[EI];have:=Ap l;omega
theorem GZ(l:List Int)(k:Nat):0≤oq l k∧oq l k≤1125899906842624:=JR _
theorem Eh(l:List Int)(n:Int):gJ (l++[n])=cnt (gJ l+cnt n):=by
 unfold gJ;rw[List.foldl_append];rfl
theorem zg(a b:Int):gJ [a,b]=cnt (cnt a+cnt b):=by
 show cnt (cnt (0+cnt a)+cnt b)=_
 rw[Int.zero_add,gy (dQ a).1 (dQ a).2]
theorem Ad(a b:Int):jO [a,b]=gW (cnt a) (cnt b):=by
 show gW (gW 1 (cnt a)) (cnt b)=_
 rw[kP (by decide) (dQ a).1 (by decide) (dQ a).2,Int.one_mul]
 have:=dQ a
 rw[show min 1125899906842624 (cnt a)=cnt a by omega]
structure May (N W R K:Int):Prop where
 n0:1≤N
 n1:N≤1048576
 w0:16≤W
 w1:W≤256
 r0:1≤R
 r1:R≤4096
 k0:1≤K
 k1:K≤65536
 nw:N*W≤4194304
theorem Gj{n lo hi:Int}(h0:lo≤n)(h1:n≤hi):jr n lo hi=n:=by
 unfold jr;rw[if_neg (by omega),if_neg (by omega)]
theorem kU{a b:Int}(ha:0≤a)(hb:0≤b)(h:a+b≤1125899906842624):gJ [a,b]=a+b:=by
 rw[zg,gy ha (by omega),gy hb (by omega),gy (by omega) h]
theorem Jk{a b c:Int}(ha:0≤a)(hb:0≤b)(hc:0≤c)(h:a+b+c≤1125899906842624):gJ [a,b,c]=a+b+c:=by
 have:=Eh [a,b] c
 rw[show[a,b]++[c]=[a,b,c] from rfl,kU ha hb (by omega),gy hc (by omega),gy (by omega) h] at this
 exact this
theorem jS{a b:Int}(ha:0≤a)(hb:0≤b)(h1:a≤1125899906842624)(h2:b≤1125899906842624)(h:a*b≤1125899906842624):jO [a,b]=a*b:=by
 rw[Ad,gy ha h1,gy hb h2,kP ha hb h1 h2]
 omega
theorem IY{a b:Int}(ha:0≤a)(h1:a≤1125899906842624)(hb:1≤b)(h2:b≤1125899906842624):MC a b=(a+b-1)/b:=by
 have e:FE b=b:=by unfold FE;rw[gy (by omega) h2,if_neg (by omega)]
 unfold MC
 rw[e,gy ha h1]
def yZ(N W R:Int):Int:=24+R+N*W
def gL(N W:Int):Int:=N*(W+1)
def gz(N W:Int):Int:=3*(N*(W+1))+4
def aT(W:Int):Int:=(W-8)*(W-1)
def BO(a b:Int):Int:=(a+b-1)/b
def Lp(N W K:Int):Int:=2*BO (gz N W) K+2*(W-7)
def yF(N W K:Int):Int:=BO (2*gz N W+gL N W) K+2
theorem wZ{a b A B:Int}(ha:0≤a)(hb:0≤b)(h1:a≤A)(h2:b≤B):0≤a*b∧a*b≤A*B:=
 ⟨Int.mul_nonneg ha hb,Int.mul_le_mul h1 h2 hb (by omega)⟩
theorem DJ{N W R K:Int}(h:May N W R K):16≤N*W∧N*W≤4194304:=by
 have:=Int.mul_le_mul h.n0 h.w0 (by omega) (by have:=h.n0;omega)
 exact⟨by omega,h.nw⟩
theorem Gt(N W:Int):gL N W=N*W+N:=by unfold gL;rw[Int.mul_add];omega
theorem zD{N W R K:Int}(h:May N W R K):17≤gL N W∧gL N W≤5242880:=by
 have:=DJ h
 have:=h.n0;have:=h.n1
 rw[Gt];omega
theorem Gx(N W:Int):gz N W=3*gL N W+4:=rfl
theorem Gw{N W R K:Int}(h:May N W R K):55≤gz N W∧gz N W≤15728644:=by
 have:=zD h
 rw[Gx];omega
theorem gH{W:Int}(h0:16≤W)(h1:W≤256):120≤aT W∧aT W≤63240:=by
 have a:=Int.mul_le_mul (show(8:Int)≤W-8 by omega) (show(15:Int)≤W-1 by omega) (by omega) (by omega)
 have b:=Int.mul_le_mul (show W-8≤248 by omega) (show W-1≤255 by omega) (by omega) (by omega)
 unfold aT;omega
theorem CZ{a b:Int}(ha:0≤a)(hb:1≤b):0≤BO a b∧BO a b≤a∧a≤b*BO a b∧b*BO a b<a+b:=by
 unfold BO
 have h1:=Int.emod_add_mul_ediv (a+b-1) b
 have h2:=Int.emod_nonneg (a+b-1) (show b≠0 by omega)
 have h3:=Int.emod_lt_of_pos (a+b-1) (show 0<b by omega)
 have h4:0≤(a+b-1)/b:=Int.ediv_nonneg (by omega) (by omega)
 refine⟨h4,?_,by omega,by omega⟩
 by_cases h5:a=0
 ·subst h5
  have:(0+b-1)/b=0:=Int.ediv_eq_zero_of_lt (by omega) (by omega)
  omega
 ·have h6:(a+b-1)/b<a+1:=by
   apply Int.ediv_lt_of_lt_mul (by omega)
   have h7:a*1≤a*b:=Int.mul_le_mul_of_nonneg_left hb ha
   have:(a+1)*b=a*b+b:=by rw[Int.add_mul];omega
   omega
  omega
def pw(n:Int):Int:=2^n.toNat
theorem nu(n:Int):0<pw n:=Int.pow_pos (by decide)
def cz(at' n:Int):Bool:=decide (0≤at'∧1≤n∧n≤32∧at'≤32-n)
theorem iB{a n:Int}(h:cz a n=true):0≤a∧1≤n∧n≤32∧a≤32-n:=of_decide_eq_true h
theorem EO{a n:Int}(h:cz a n=false):¬(0≤a∧1≤n∧n≤32∧a≤32-n):=of_decide_eq_false h
def fP(w a n:Int):Int:=if cz a n=true then w/pw a%pw n else 0
def qE(v n:Int):Bool:=decide (v<pw n)
def Av(w a n v:Int):Int:=w-fP w a n*pw a+v*pw a
theorem KP{m n:Int}(h:m≤n):pw m≤pw n:=by
 unfold pw
 have h1:m.toNat≤n.toNat:=by omega
 have:=Nat.pow_le_pow_right (n:=2) (by decide) h1
 exact_mod_cast this
theorem Mc{m n:Int}(hm:0≤m)(hn:0≤n):pw (m+n)=pw m*pw n:=by
 unfold pw
 rw[Int.toNat_add hm hn,Int.pow_add]
theorem Ik:pw 32=4294967296:=by decide
theorem MR:pw 0=1:=by decide
theorem Md{n:Int}(h:n≤0):pw n=1:=by
 unfold pw
 have:n.toNat=0:=by omega
 rw[this];rfl
theorem DT{n:Int}(h:n≤32):pw n≤4294967296:=by rw[←Ik];exact KP h
theorem Ki{n:Int}(h:32≤n):4294967296≤pw n:=by rw[←Ik];exact KP h
theorem JL{n:Int}(h1:1≤n)(h2:n≤32):(4294967295:Int)/2^(32-n).toNat=pw n-1:=by
 have e:pw n*pw (32-n)=4294967296:=by
  rw[←Mc (by omega) (by omega),show n+(32-n)=32 by omega,Ik]
 have hp:=nu (32-n)
 have hq:=nu n
 show(4294967295:Int)/pw (32-n)=pw n-1
 have e2:(4294967295:Int)=(pw (32-n)-1)+(pw n-1)*pw (32-n):=by
  rw[Int.sub_mul,e];omega
 rw[e2,Int.add_mul_ediv_right _ _ (by omega),Int.ediv_eq_zero_of_lt (by omega) (by omega)]
 omega
theorem Jz{w a n:Int}(h0:0≤w):0≤fP w a n:=by
 unfold fP;split
 ·exact Int.emod_nonneg _ (by have:=nu n;omega)
 ·exact Int.le_refl _
theorem JA{w a n:Int}:fP w a n<pw n:=by
 unfold fP;split
 ·exact Int.emod_lt_of_pos _ (nu n)
 ·exact nu n
theorem Jy{w a n:Int}(h0:0≤w)(h1:w≤4294967295):fP w a n≤4294967295:=by
 by_cases hp:cz a n=true
 ·have h:=iB hp
  have:=JA (w:=w) (a:=a) (n:=n)
  have:=DT h.2.2.1
  omega
 ·have:fP w a n=0:=by unfold fP;rw[if_neg hp]
  omega
theorem JB{w a n:Int}(h0:0≤w)(h1:w≤4294967295)(hp:cz a n=true):
  bits .and .u32 (w/2^a.toNat) (pw n-1)=fP w a n:=by
 obtain⟨ha,hn1,hn2,hd⟩:=iB hp
 have hle:w/pw a≤w:=Int.ediv_le_self _ h0
 have hge:0≤w/pw a:=Int.ediv_nonneg h0 (Int.le_of_lt (nu a))
 have hm:=DT hn2
 have hp0:=nu n
 show bits .and .u32 (w/pw a) (pw n-1)=_
 rw[u32_and _ _ hge (by omega) (by omega) (by omega)]
 unfold fP
 rw[if_pos hp]
 obtain⟨X,hX⟩:=Int.eq_ofNat_of_zero_le hge
 rw[hX]
 have e:(pw n-1).toNat=2^n.toNat-1:=by
  unfold pw
  have:((2:Int)^n.toNat)=((2^n.toNat:Nat):Int):=by simp
  rw[this];omega
 rw[e,Int.toNat_natCast,Nat.and_two_pow_sub_one_eq_mod]
 unfold pw
 simp
theorem CG(w a n:Nat):w=(w/2^(a+n))*2^(a+n)+(w/2^a%2^n)*2^a+w%2^a:=by
 have h1:=Nat.div_add_mod w (2^a)
 have h2:=Nat.div_add_mod (w/2^a) (2^n)
 rw[Nat.div_div_eq_div_mul,←Nat.pow_add] at h2
 have h3:2^a*(2^n*(w/2^(a+n)))=w/2^(a+n)*2^(a+n):=by
  rw[Nat.pow_add,←Nat.mul_assoc,Nat.mul_comm]
 have h4:2^a*(w/2^a)=2^a*(2^n*(w/2^(a+n)))+2^a*(w/2^a%2^n):=by
  rw[←Nat.mul_add,h2]
 have h5:2^a*(w/2^a%2^n)=w/2^a%2^n*2^a:=Nat.mul_comm _ _
 omega
theorem sS(w a n v:Nat)(hv:v<2^n)(hw:w<2^32)(hn:a+n≤32):
  (w &&& (4294967295-(2^n-1)*2^a)) ||| v*2^a=(w/2^(a+n))*2^(a+n)+v*2^a+w%2^a:=by
 have hmul:(2^n-1)*2^a<2^32:=by
  have h1:(2^n-1)*2^a<2^n*2^a:=Nat.mul_lt_mul_of_pos_right (by have:=Nat.two_pow_pos n;omega) (Nat.two_pow_pos a)
  rw[←Nat.pow_add] at h1
  exact Nat.lt_of_lt_of_le h1 (Nat.pow_le_pow_right (by decide) (by omega))
 have hlow:v*2^a+w%2^a<2^(a+n):=by
  have h1:(v+1)*2^a≤2^n*2^a:=Nat.mul_le_mul_right _ hv
  rw[Nat.add_mul,Nat.one_mul] at h1
  have h2:=Nat.mod_lt w (Nat.two_pow_pos a)
  rw[Nat.pow_add,Nat.mul_comm (2^a)]
  omega
 apply Nat.eq_of_testBit_eq
 intro j
 have e1:(4294967295-(2^n-1)*2^a)=2^32-((2^n-1)*2^a+1):=by omega
 rw[Nat.testBit_or,Nat.testBit_and,e1,Nat.testBit_two_pow_sub_succ hmul]
 rw[Nat.add_assoc,Nat.mul_comm (w/2^(a+n)),Nat.testBit_two_pow_mul_add _ hlow,Nat.mul_comm v,Nat.testBit_two_pow_mul_add _ (Nat.mod_lt w (Nat.two_pow_pos a))]
 rw[Nat.mul_comm (2^n-1),Nat.testBit_two_pow_mul,Nat.testBit_two_pow_mul,Nat.testBit_two_pow_sub_one,Nat.testBit_mod_two_pow,Nat.testBit_div_two_pow]
 by_cases hj:j<a
 ·have h1:¬a≤j:=by omega
  have h2:j<a+n:=by omega
  have h3:j<32:=by omega
  simp[hj,h1,h2,h3]
 ·by_cases hj2:j<a+n
  ·have h1:a≤j:=by omega
   have h2:j-a<n:=by omega
   simp[hj,hj2,h1,h2]
  ·have h1:a≤j:=by omega
   have h2:¬j-a<n:=by omega
   have h3:v.testBit (j-a)=false:=by
    apply Nat.testBit_lt_two_pow
    exact Nat.lt_of_lt_of_le hv (Nat.pow_le_pow_right (by decide) (by omega))
   have h4:a+n+(j-(a+n))=j:=by omega
   have h6:j-(a+n)+(a+n)=j:=by omega
   by_cases h5:j<32
   ·simp[hj,hj2,h1,h2,h3,h4,h5,h6]
   ·have hwj:w.testBit j=false:=by
     apply Nat.testBit_lt_two_pow
     exact Nat.lt_of_lt_of_le hw (Nat.pow_le_pow_right (by decide) (by omega))
    simp[hj,hj2,h1,h2,h3,h4,h5,h6,hwj]
theorem LV{w a n v:Int}(h0:0≤w)(h1:w≤4294967295)(hv0:0≤v)(hp:cz a n=true)(hf:qE v n=true):
  bits .or .u32 (bits .andNot .u32 w (IntKind.u32.wrap ((pw n-1)*2^a.toNat))) (IntKind.u32.wrap (v*2^a.toNat))=Av w a n v:=by
 obtain⟨ha,hn1,hn2,hd⟩:=iB hp
 have hv:v<pw n:=of_decide_eq_true hf
 obtain⟨A,rfl⟩:=Int.eq_ofNat_of_zero_le ha
 obtain⟨N,rfl⟩:=Int.eq_ofNat_of_zero_le (by omega:0≤n)
 obtain⟨W,rfl⟩:=Int.eq_ofNat_of_zero_le h0
 obtain⟨V,rfl⟩:=Int.eq_ofNat_of_zero_le hv0
 have eN:pw (N:Int)=((2^N:Nat):Int):=by unfold pw;simp
 have eA:pw (A:Int)=((2^A:Nat):Int):=by unfold pw;simp
 have eA2:(2:Int)^(A:Int).toNat=((2^A:Nat):Int):=by simp
 have hV:V<2^N:=by rw[eN] at hv;exact_mod_cast hv
 have hs:A+N≤32:=by omega
 have hW:W<2^32:=by omega
 have hpos:=Nat.two_pow_pos N
 have eM:(pw (N:Int)-1)*2^(A:Int).toNat=(((2^N-1)*2^A:Nat):Int):=by
  rw[eN,eA2,Int.natCast_mul,Int.natCast_sub hpos];simp
 have eV:(V:Int)*2^(A:Int).toNat=((V*2^A:Nat):Int):=by rw[eA2,Int.natCast_mul]
 have bM:(2^N-1)*2^A<2^32:=by
  have h1:(2^N-1)*2^A<2^N*2^A:=Nat.mul_lt_mul_of_pos_right (by omega) (Nat.two_pow_pos A)
  rw[←Nat.pow_add] at h1
  exact Nat.lt_of_lt_of_le h1 (Nat.pow_le_pow_right (by decide) (by omega))
 have bV:V*2^A<2^32:=by
  have h1:V*2^A<2^N*2^A:=Nat.mul_lt_mul_of_pos_right hV (Nat.two_pow_pos A)
  rw[←Nat.pow_add] at h1
  exact Nat.lt_of_lt_of_le h1 (Nat.pow_le_pow_right (by decide) (by omega))
 rw[eM,eV,IntKind.wrap_u32,IntKind.wrap_u32]
 rw[show((((2^N-1)*2^A:Nat):Int))%4294967296=(((2^N-1)*2^A:Nat):Int) from by omega]
 rw[show((V*2^A:Nat):Int)%4294967296=((V*2^A:Nat):Int) from by omega]
 rw[u32_andNot _ _ (by omega) (by omega) (by omega) (by omega)]
 have hle:W &&& (4294967295-(2^N-1)*2^A)≤W:=Nat.and_le_left
 rw[Int.toNat_natCast,Int.toNat_natCast,u32_or _ _ (by omega) (by omega) (by omega) (by omega),Int.toNat_natCast,Int.toNat_natCast,sS W A N V hV hW hs]
 unfold Av fP
 rw[if_pos hp,eN,eA]
 have hsw:=CG W A N
 have e1:((W:Int)/((2^A:Nat):Int)%((2^N:Nat):Int))=((W/2^A%2^N:Nat):Int):=by simp
 rw[e1,←Int.natCast_mul,←Int.natCast_mul]
 omega
theorem Gz{v n:Int}(h0:0≤v)(h1:v≤4294967295)(hn:0≤n):(v/2^min n.toNat 32==0)=qE v n:=by
 unfold qE
 rw[Bool.eq_iff_iff,beq_iff_eq,decide_eq_true_iff]
 by_cases h:n≤32
 ·have e:min n.toNat 32=n.toNat:=by omega
  rw[e]
  show v/pw n=0↔v<pw n
  constructor
  ·intro hz
   have h2:=Int.lt_ediv_add_one_mul_self v (nu n)
   rw[hz] at h2
   omega
  ·intro hlt;exact Int.ediv_eq_zero_of_lt h0 hlt
 ·have e:min n.toNat 32=32:=by omega
  rw[e]
  have hz:v/2^32=0:=Int.ediv_eq_zero_of_lt h0 (by omega)
  have:=Ki (n:=n) (by omega)
  constructor
  ·intro _;omega
  ·intro _;exact hz
theorem Gy{v n:Int}(h0:0≤v)(hn:n≤0):(v==0)=qE v n:=by
 unfold qE
 rw[Md hn,Bool.eq_iff_iff,beq_iff_eq,decide_eq_true_iff]
 omega
def sumTo(zs:List Int):Nat→Int
 |0=>0
 |k+1=>sumTo zs k+nth zs k
def lJ(x:Int)(zs:List Int)(k:Nat):List Int:=(List.range k).map fun j=>fP x (sumTo zs j) (nth zs j)
theorem nC(x:Int)(zs:List Int)(k:Nat):(lJ x zs k).length=k:=by simp[lJ]
set_option maxHeartbeats 400000 in
theorem mW(n:Int)(w:World)(h1:1≤n)(h2:n≤32):
  Calls Tryz.prog 236 #[.int .i64 n] w fun e w'=>e=.returned (.bool true)∧w=w':=by
 go_enter Tryz.func236,Tryz.ntmps236
 go_wp2
 go_ret
 exact⟨rfl,rfl⟩
set_option maxHeartbeats 400000 in
theorem Ce(n:Int)(w:World)(h:¬(1≤n∧n≤32)):
  Calls Tryz.prog 236 #[.int .i64 n] w fun e w'=>e=.returned (.bool false)∧w=w':=by
 by_cases h1:1≤n
 ·have h2:¬n≤32:=fun h2=>h ⟨h1,h2⟩
  clear h
  go_enter Tryz.func236,Tryz.ntmps236
  go_wp2
  go_ret
  exact⟨rfl,rfl⟩
 ·clear h
  go_enter Tryz.func236,Tryz.ntmps236
  go_wp2
  go_ret
  exact⟨rfl,rfl⟩
set_option maxHeartbeats 400000 in
theorem mV(a n:Int)(w:World)(hp:cz a n=true):
  Calls Tryz.prog 225 #[.int .i64 a,.int .i64 n] w fun e w'=>e=.returned (.bool true)∧w=w':=by
 obtain⟨h0,h1,h2,h3⟩:=iB hp
 clear hp
 go_enter Tryz.func225,Tryz.ntmps225
 go_wp2_with (go_at_call 236;refine(mW _ _ (by omega) (by omega)).mono ?_;rintro e w' ⟨rfl,rfl⟩)
 go_ret
 exact⟨rfl,rfl⟩
set_option maxHeartbeats 400000 in
theorem uh(a n:Int)(w:World)(hp:cz a n=false):
  Calls Tryz.prog 225 #[.int .i64 a,.int .i64 n] w fun e w'=>e=.returned (.bool false)∧w=w':=by
 have h:=EO hp
 clear hp
 by_cases hw:1≤n∧n≤32
 ·obtain⟨h1,h2⟩:=hw
  by_cases h0:0≤a
  ·have h3:¬a≤32-n:=fun h3=>h ⟨h0,h1,h2,h3⟩
   clear h
   go_enter Tryz.func225,Tryz.ntmps225
   go_wp2_with (go_at_call 236;refine(mW _ _ (by omega) (by omega)).mono ?_;rintro e w' ⟨rfl,rfl⟩)
   go_ret
   exact⟨aG (decide_eq_false (by omega)),rfl⟩
  ·clear h
   go_enter Tryz.func225,Tryz.ntmps225
   go_wp2_with (go_at_call 236;refine(mW _ _ (by omega) (by omega)).mono ?_;rintro e w' ⟨rfl,rfl⟩)
   go_ret
   exact⟨rfl,rfl⟩
 ·clear h
  have hW:Hid (¬(1≤n∧n≤32)):=hw
  clear hw
  go_enter Tryz.func225,Tryz.ntmps225
  go_wp2_with (go_at_call 236;refine(Ce _ _ hW.out).mono ?_;rintro e w' ⟨rfl,rfl⟩)
  go_ret
  exact⟨rfl,rfl⟩
set_option maxHeartbeats 400000 in
theorem rM(n:Int)(w:World)(h1:1≤n)(h2:n≤32):
  Calls Tryz.prog 226 #[.int .i64 n] w fun e w'=>e=.returned (.int .u32 (pw n-1))∧w=w':=by
 go_enter Tryz.func226,Tryz.ntmps226
 go_wp2
 go_ret
 exact⟨bP (JL h1 h2),rfl⟩
set_option maxHeartbeats 400000 in
theorem zK(v n:Int)(w:World)(h0:0≤v)(h1:v≤4294967295):
  Calls Tryz.prog 232 #[.int .u32 v,.int .i64 n] w fun e w'=>e=.returned (.bool (qE v n))∧w=w':=by
 by_cases hn:0≤n
 ·go_enter Tryz.func232,Tryz.ntmps232
  go_wp2
  go_ret
  exact⟨aG (Gz h0 h1 hn),rfl⟩
 ·go_enter Tryz.func232,Tryz.ntmps232
  go_wp2
  go_ret
  exact⟨aG (Gy h0 (by omega)),rfl⟩
set_option maxHeartbeats 400000 in
theorem JD(x a n:Int)(w:World)(h0:0≤x)(h1:x≤4294967295)(hp:cz a n=true):
  Calls Tryz.prog 198 #[.int .u32 x,.int .i64 a,.int .i64 n] w fun e w'=>e=.returned (.int .u32 (fP x a n))∧∃k,w'=w.drewN k:=by
 obtain⟨g0,g1,g2,g3⟩:=iB hp
 have HG:Hid (bits .and .u32 (x/2^a.toNat) (pw n-1)=fP x a n):=JB h0 h1 hp
 have HP:Hid (cz a n=true):=hp
 clear hp
 go_enter Tryz.func198,Tryz.ntmps198
 go_wp2_with (go_at_call 225;refine(mV _ _ _ HP.out).mono ?_;rintro e w' ⟨rfl,rfl⟩)
 go_quiet ((go_at_call 226;exact Az (rM _ _ g1 g2)))
 go_wp2
 go_ret
 exact⟨bP HG.out,_,rfl⟩
set_option maxHeartbeats 400000 in
theorem Lc(x a n:Int)(w:World)(hp:cz a n=false):
  Calls Tryz.prog 198 #[.int .u32 x,.int .i64 a,.int .i64 n] w fun e w'=>e=.returned (.int .u32 0)∧w=w':=by
 have HP:Hid (cz a n=false):=hp
 clear hp
 go_enter Tryz.func198,Tryz.ntmps198
 go_wp2_with (go_at_call 225;refine(uh _ _ _ HP.out).mono ?_;rintro e w' ⟨rfl,rfl⟩)
 go_ret
 exact⟨rfl,rfl⟩
theorem Kk{a b c:Int}(h:a=b):Ending.returned (.tuple #[.int .u32 a,.int .i64 c])=.returned (.tuple #[.int .u32 b,.int .i64 c]):=by rw[h]
set_option maxHeartbeats 400000 in
theorem LU(x a n v:Int)(w:World)(hp:cz a n=false):
  Calls Tryz.prog 208 #[.int .u32 x,.int .i64 a,.int .i64 n,.int .u32 v] w fun e w'=>e=.returned (.tuple #[.int .u32 0,.int .i64 2])∧w=w':=by
 have HP:Hid (cz a n=false):=hp
 clear hp
 go_enter Tryz.func208,Tryz.ntmps208
 go_wp2_with (go_at_call 225;refine(uh _ _ _ HP.out).mono ?_;rintro e w' ⟨rfl,rfl⟩)
 go_ret2
 exact⟨rfl,rfl⟩
set_option maxHeartbeats 400000 in
theorem Kg(x a n v:Int)(w:World)(hp:cz a n=true)(hv0:0≤v)(hv1:v≤4294967295)(hf:qE v n=false):
  Calls Tryz.prog 208 #[.int .u32 x,.int .i64 a,.int .i64 n,.int .u32 v] w fun e w'=>e=.returned (.tuple #[.int .u32 0,.int .i64 15])∧w=w':=by
 have HP:Hid (cz a n=true):=hp
 clear hp
 go_enter Tryz.func208,Tryz.ntmps208
 go_wp2_with (first|(go_at_call 225;refine(mV _ _ _ HP.out).mono ?_;rintro e w' ⟨rfl,rfl⟩)|(go_at_call 232;refine(zK _ _ _ hv0 hv1).mono ?_;rintro e w' ⟨rfl,rfl⟩))
 go_ret2
 exact⟨rfl,rfl⟩
set_option maxHeartbeats 400000 in
theorem Kh(x a n v:Int)(w:World)(h0:0≤x)(h1:x≤4294967295)(hp:cz a n=true)(hv0:0≤v)(hv1:v≤4294967295)(hf:qE v n=true):
  Calls Tryz.prog 208 #[.int .u32 x,.int .i64 a,.int .i64 n,.int .u32 v] w fun e w'=>e=.returned (.tuple #[.int .u32 (Av x a n v),.int .i64 0])∧∃k,w'=w.drewN k:=by
 obtain⟨g0,g1,g2,g3⟩:=iB hp
 have HG:Hid (bits .or .u32 (bits .andNot .u32 x (IntKind.u32.wrap ((pw n-1)*2^a.toNat))) (IntKind.u32.wrap (v*2^a.toNat))=Av x a n v):=LV h0 h1 hv0 hp hf
 have HP:Hid (cz a n=true):=hp
 clear hp
 go_enter Tryz.func208,Tryz.ntmps208
 go_wp2_with (first|(go_at_call 225;refine(mV _ _ _ HP.out).mono ?_;rintro e w' ⟨rfl,rfl⟩)|(go_at_call 232;refine(zK _ _ _ hv0 hv1).mono ?_;rintro e w' ⟨rfl,rfl⟩))
 go_quiet ((go_at_call 226;exact Az (rM _ _ g1 g2)))
 go_wp2
 go_ret2
 exact⟨Kk HG.out,_,rfl⟩
def part(x:Int)(zs:List Int)(k:Nat):List Value:=(lJ x zs k++List.replicate (zs.length-k) 0).map (Value.int .u32)
def FQ(x:Int)(zs:List Int)(w:World)(e:Ending)(w':World):Prop:=
 ∃a cap,e=.returned (.tuple #[.slice a zs.length cap,.int .i64 0])∧Row w' .u32 a (lJ x zs zs.length)∧Below w.heap.size w w'
theorem FQ.mk{x:Int}{zs:List Int}{w w':World}{v:Value}{B:Nat}{t:TypeId}
  (h:w'.ownsRow B t 1 v zs.length ((lJ x zs zs.length).map (Value.int .u32))) (hb:Below w.heap.size w w'):FQ x zs w (.returned (.tuple #[v,.int .i64 0])) w':=by
 have h2:w'.ownsRow B t 1 v (lJ x zs zs.length).length ((lJ x zs zs.length).map (Value.int .u32)):=by rw[nC];exact h
 obtain⟨a,cap,hv,hr⟩:=Row.jV h2
 rw[nC] at hv
 exact⟨a,cap,by rw[hv],hr,hb⟩
def pY(x a n v:Int):Int:=if cz a n=true then(if qE v n=true then Av x a n v else 0) else 0
def Ig(a n v:Int):Int:=if cz a n=true then(if qE v n=true then 0 else 15) else 2
theorem Ay{x a n v:Int}(h1:cz a n=true)(h2:qE v n=true):pY x a n v=Av x a n v:=by unfold pY;rw[if_pos h1,if_pos h2]
theorem Ih{a n v:Int}(h1:cz a n=true)(h2:qE v n=true):Ig a n v=0:=by unfold Ig;rw[if_pos h1,if_pos h2]
theorem uJ{a b c d:Int}(h:a=b)(h2:c=d):Ending.returned (.tuple #[.int .u32 a,.int .i64 c])=.returned (.tuple #[.int .u32 b,.int .i64 d]):=by rw[h,h2]
theorem JC(x a n:Int)(w:World)(h0:0≤x)(h1:x≤4294967295):
  Calls Tryz.prog 198 #[.int .u32 x,.int .i64 a,.int .i64 n] w fun e w'=>e=.returned (.int .u32 (fP x a n))∧ib w w':=by
 cases hp:cz a n
 ·refine(Lc x a n w hp).mono fun e w' ⟨he,hw⟩=>⟨?_,hw▸ib.refl w⟩
  rw[he];exact bP (by unfold fP;rw[hp];rfl)
 ·exact JD x a n w h0 h1 hp
theorem Ke(x a n v:Int)(w:World)(h0:0≤x)(h1:x≤4294967295)(hv0:0≤v)(hv1:v≤4294967295):
  Calls Tryz.prog 208 #[.int .u32 x,.int .i64 a,.int .i64 n,.int .u32 v] w fun e w'=>e=.returned (.tuple #[.int .u32 (pY x a n v),.int .i64 (Ig a n v)])∧ib w w':=by
 cases hp:cz a n
 ·refine(LU x a n v w hp).mono fun e w' ⟨he,hw⟩=>⟨?_,hw▸ib.refl w⟩
  rw[he];exact uJ (by unfold pY;rw[hp];rfl) (by unfold Ig;rw[hp];rfl)
 ·cases hf:qE v n
  ·refine(Kg x a n v w hp hv0 hv1 hf).mono fun e w' ⟨he,hw⟩=>⟨?_,hw▸ib.refl w⟩
   rw[he];exact uJ (by unfold pY;rw[hp,hf];rfl) (by unfold Ig;rw[hp,hf];rfl)
  ·refine(Kh x a n v w h0 h1 hp hv0 hv1 hf).mono fun e w' ⟨he,hw⟩=>⟨?_,hw⟩
   rw[he];exact uJ (Ay hp hf).symm (Ih hp hf).symm
open Classical in
open Classical in
open Classical in
open Classical in
def iw(n b:Int):Bool:=decide (0≤n∧n<b)
theorem Dt{n b:Int}(h:iw n b=true):0≤n∧n<b:=of_decide_eq_true h
theorem Lm{n b:Int}(h:0≤n∧n<b):iw n b=true:=decide_eq_true h
theorem Dr{n b:Int}(h:¬(0≤n∧n<b)):iw n b=false:=decide_eq_false h
def rE(c n s d g:Int):Bool:=iw c 2&&iw n 2&&iw s 2&&iw d 2&&iw g 2
def ou(c n s d g:Int):Bool:=decide (c=0∧n=0∧s=0∧d=0∧g=0)
def cZ(k c n s d g o:Int):Bool:=iw k 4&&iw o 1048576&&(k==3||o==0)&&rE c n s d g&&(!(k==0||k==3)||ou c n s d g)
def bB(k c n s d g o:Int):Prop:=
 (0≤k∧k<4)∧(0≤o∧o<1048576)∧(k=3∨o=0)∧(0≤c∧c<2)∧(0≤n∧n<2)∧(0≤s∧s<2)∧(0≤d∧d<2)∧(0≤g∧g<2)∧((k=0∨k=3)→c=0∧n=0∧s=0∧d=0∧g=0)
theorem iC{k c n s d g o:Int}:cZ k c n s d g o=true↔bB k c n s d g o:=by
 unfold cZ bB rE ou iw
 simp only[Bool.and_eq_true,Bool.or_eq_true,Bool.not_eq_true',Bool.or_eq_false_iff,decide_eq_true_eq,beq_iff_eq,beq_eq_false_iff_ne,ne_eq]
 omega
theorem uL{k c n s d g o:Int}(h:cZ k c n s d g o=true):bB k c n s d g o:=iC.1 h
theorem jl{k c n s d g o:Int}(h:bB k c n s d g o):cZ k c n s d g o=true:=iC.2 h
theorem EX{k c n s d g o:Int}(h:¬bB k c n s d g o):cZ k c n s d g o=false:=by
 cases h2:cZ k c n s d g o with
 |false=>rfl
 |true=>exact absurd (uL h2) h
theorem tF{a b:Bool}(h:a=true↔b=true):a=b:=by cases a<;>cases b<;>simp_all
theorem xc{c n s d g:Int}:ou c n s d g=true↔c=0∧n=0∧s=0∧d=0∧g=0:=by unfold ou;simp
theorem Em{c n s d g:Int}:rE c n s d g=true↔(0≤c∧c<2)∧(0≤n∧n<2)∧(0≤s∧s<2)∧(0≤d∧d<2)∧(0≤g∧g<2):=by
 unfold rE iw;simp[and_assoc]
theorem MZ{k c n s d g o:Int}(h:iw k 4=false):cZ k c n s d g o=false:=by unfold cZ;rw[h];rfl
theorem Na{k c n s d g o:Int}(h:iw o 1048576=false):cZ k c n s d g o=false:=by unfold cZ;rw[h];simp
theorem Me{k c n s d g o:Int}(h:¬k=3)(h2:¬o=0):cZ k c n s d g o=false:=by
 refine EX fun hr=> ?_
 obtain⟨_,_,h3,_⟩:=hr
 omega
theorem MX{c n s d g o:Int}(h:iw o 1048576=true):cZ 3 c n s d g o=ou c n s d g:=by
 have:=Dt h
 refine tF ?_
 rw[iC,xc];unfold bB
 omega
theorem MW{c n s d g:Int}:cZ 0 c n s d g 0=ou c n s d g:=by
 refine tF ?_
 rw[iC,xc];unfold bB
 omega
theorem Nb{k c n s d g:Int}(h:iw k 4=true)(h0:¬k=0)(h3:¬k=3):cZ k c n s d g 0=rE c n s d g:=by
 have:=Dt h
 refine tF ?_
 rw[iC,Em];unfold bB
 omega
def bR(k c n s d g o:Int):Int:=k+4*c+8*n+16*s+32*d+64*g+256*o
theorem Ii{x a n v:Int}(h0:0≤x)(hx:x<pw a)(hp:cz a n=true):Av x a n v=x+v*pw a:=by
 unfold Av fP
 rw[if_pos hp,Int.ediv_eq_zero_of_lt h0 hx]
 simp
theorem jH{x a n v:Int}(h0:0≤x)(hx:x<pw a)(hp:cz a n=true)(hf:v<pw n):pY x a n v=x+v*pw a:=by
 rw[Ay hp (decide_eq_true hf),Ii h0 hx hp]
theorem vP:pw 1=2:=by decide
theorem Ij:pw 2=4:=by decide
theorem LW:pw 3=8:=by decide
theorem LX:pw 4=16:=by decide
theorem LY:pw 5=32:=by decide
theorem LZ:pw 6=64:=by decide
theorem Ma:pw 8=256:=by decide
theorem KO:pw 24=16777216:=by decide
def LC(k:Int):Int:=pY 0 0 2 k
def LD(k c:Int):Int:=pY (LC k) 2 1 c
def LF(k c n:Int):Int:=pY (LD k c) 3 1 n
def LG(k c n s:Int):Int:=pY (LF k c n) 4 1 s
def LH(k c n s d:Int):Int:=pY (LG k c n s) 5 1 d
def LJ(k c n s d g:Int):Int:=pY (LH k c n s d) 6 1 g
def Nr(k c n s d g o:Int):Int:=pY (LJ k c n s d g) 8 24 o
theorem LK{k c n s d g o:Int}(h:bB k c n s d g o):
  Nr k c n s d g o=bR k c n s d g o∧(0≤LC k∧LC k≤4294967295)∧(0≤LD k c∧LD k c≤4294967295)∧(0≤LF k c n∧LF k c n≤4294967295)∧(0≤LG k c n s∧LG k c n s≤4294967295)∧(0≤LH k c n s d∧LH k c n s d≤4294967295)∧(0≤LJ k c n s d g∧LJ k c n s d g≤4294967295):=by
 obtain⟨h1,h2,h3,h4,h5,h6,h7,h8,h9⟩:=h
 have e0:LC k=k:=by
  unfold LC;rw[jH (by omega) (by decide) (by decide) (by rw[Ij];omega),MR];omega
 have e1:LD k c=k+4*c:=by
  unfold LD;rw[e0,jH (by omega) (by rw[Ij];omega) (by decide) (by rw[vP];omega),Ij];omega
 have e2:LF k c n=k+4*c+8*n:=by
  unfold LF;rw[e1,jH (by omega) (by rw[LW];omega) (by decide) (by rw[vP];omega),LW];omega
 have e3:LG k c n s=k+4*c+8*n+16*s:=by
  unfold LG;rw[e2,jH (by omega) (by rw[LX];omega) (by decide) (by rw[vP];omega),LX];omega
 have e4:LH k c n s d=k+4*c+8*n+16*s+32*d:=by
  unfold LH;rw[e3,jH (by omega) (by rw[LY];omega) (by decide) (by rw[vP];omega),LY];omega
 have e5:LJ k c n s d g=k+4*c+8*n+16*s+32*d+64*g:=by
  unfold LJ;rw[e4,jH (by omega) (by rw[LZ];omega) (by decide) (by rw[vP];omega),LZ];omega
 have e6:Nr k c n s d g o=k+4*c+8*n+16*s+32*d+64*g+256*o:=by
  unfold Nr;rw[e5,jH (by omega) (by rw[Ma];omega) (by decide) (by rw[KO];omega),Ma];omega
 unfold bR
 omega
def uK(x:Int):Int:=x%4
def uC(x:Int):Int:=x/4%2
def uN(x:Int):Int:=x/8%2
def uS(x:Int):Int:=x/16%2
def uD(x:Int):Int:=x/32%2
def uG(x:Int):Int:=x/64%2
def uO(x:Int):Int:=x/256
theorem Lg(x:Int):fP x 0 2=uK x:=by
 unfold fP uK;rw[if_pos (by decide),MR,Ij,Int.ediv_one]
theorem Ld(x:Int):fP x 2 1=uC x:=by unfold fP uC;rw[if_pos (by decide),vP,Ij]
theorem Lh(x:Int):fP x 3 1=uN x:=by unfold fP uN;rw[if_pos (by decide),vP,LW]
theorem Lj(x:Int):fP x 4 1=uS x:=by unfold fP uS;rw[if_pos (by decide),vP,LX]
theorem Le(x:Int):fP x 5 1=uD x:=by unfold fP uD;rw[if_pos (by decide),vP,LY]
theorem Lf(x:Int):fP x 6 1=uG x:=by unfold fP uG;rw[if_pos (by decide),vP,LZ]
theorem Li{x:Int}(h0:0≤x)(h1:x≤4294967295):fP x 8 24=uO x:=by
 unfold fP uO;rw[if_pos (by decide),Ma,KO];omega
theorem unpack_pack{k c n s d g o:Int}(h:bB k c n s d g o):
  uK (bR k c n s d g o)=k∧uC (bR k c n s d g o)=c∧uN (bR k c n s d g o)=n∧uS (bR k c n s d g o)=s∧uD (bR k c n s d g o)=d∧uG (bR k c n s d g o)=g∧uO (bR k c n s d g o)=o:=by
 obtain⟨h1,h2,h3,h4,h5,h6,h7,h8,h9⟩:=h
 unfold bR uK uC uN uS uD uG uO
 omega
theorem Al(x:Int):bR (uK x) (uC x) (uN x) (uS x) (uD x) (uG x) (uO x)=x-128*(x/128%2):=by
 unfold bR uK uC uN uS uD uG uO
 omega
def yY(W:Int):Bool:=decide (16≤W∧W≤256)
theorem qm{W:Int}(h:yY W=true):16≤W∧W≤256:=of_decide_eq_true h
theorem sV{W:Int}(h0:16≤W)(h1:W≤256):yY W=true:=decide_eq_true ⟨h0,h1⟩
theorem BL{W:Int}(h:¬(16≤W∧W≤256)):yY W=false:=decide_eq_false h
def bY(W n:Int):Int:=if n≤W-8 then 0 else BO n (W-1)
def qX(l:Int):Int:=if l= -1 then 8 else 1
def qy(W l:Int):Int:=jO [l,W-1]
def dN(W n:Int):Int:=if yY W=true then(if n<0∨aT W<n then 3 else 0) else 1
def di(W p d:Int):Int:=if yY W=true then(if p<0∨d<0∨aT W<p+d then 3 else 0) else 1
def bD(W p d:Int):Int:=if di W p d=0 then 1+bY W (p+d) else 0
def dM(W n i:Int):Int:=if dN W n=0 then(if i<0∨n≤i then 7 else 0) else dN W n
def jF(W n i:Int):Int:=if dM W n i=0 then(if n≤W-8 then -1 else i/(W-1)) else 0
def iR(W n i:Int):Int:=if dM W n i=0 then(if n≤W-8 then 8+i else 1+i%(W-1)) else 0
theorem xG{W n:Int}(h:dN W n=0):16≤W∧W≤256∧0≤n∧n≤aT W:=by
 unfold dN at h
 split at h
 ·rename_i hw
  have:=qm hw
  split at h
  ·cases h
  ·omega
 ·cases h
theorem FC{W n:Int}(h0:16≤W)(h1:W≤256)(h2:0≤n)(h3:n≤aT W):dN W n=0:=by
 unfold dN;rw[if_pos (sV h0 h1),if_neg (by omega)]
theorem qc{W p d:Int}(h:di W p d=0):16≤W∧W≤256∧0≤p∧0≤d∧p+d≤aT W:=by
 unfold di at h
 split at h
 ·rename_i hw
  have:=qm hw
  split at h
  ·cases h
  ·omega
 ·cases h
theorem xw{W n i:Int}(h:dM W n i=0):dN W n=0∧0≤i∧i<n:=by
 unfold dM at h
 split at h
 ·split at h
  ·cases h
  ·exact⟨by assumption,by omega,by omega⟩
 ·exact absurd h (by assumption)
theorem xu{W n i:Int}(h:dN W n=0)(h0:0≤i)(h1:i<n):dM W n i=0:=by
 unfold dM;rw[if_pos h,if_neg (by omega)]
theorem lm{W n:Int}(h0:16≤W)(h1:W≤256)(h2:W-8<n)(h3:n≤aT W):
  1≤bY W n∧bY W n≤W-8∧n≤bY W n*(W-1)∧bY W n*(W-1)<n+W-1:=by
 have e:bY W n=BO n (W-1):=by unfold bY;rw[if_neg (by omega)]
 have u:=CZ (a:=n) (b:=W-1) (by omega) (by omega)
 rw[e]
 rw[Int.mul_comm (W-1)] at u
 refine⟨?_,?_,u.2.2.1,by omega⟩
 ·by_cases h:1≤BO n (W-1)
  ·exact h
  ·have:BO n (W-1)=0:=by omega
   rw[this,Int.zero_mul] at u
   omega
 ·by_cases h:BO n (W-1)≤W-8
  ·exact h
  ·have h4:(W-8+1)*(W-1)≤BO n (W-1)*(W-1):=Int.mul_le_mul_of_nonneg_right (by omega) (by omega)
   rw[Int.add_mul] at h4
   have:(W-8)*(W-1)=aT W:=rfl
   omega
theorem ja{W n:Int}(h:n≤W-8):bY W n=0:=by unfold bY;rw[if_pos h]
theorem kG{W n:Int}(h0:16≤W)(h1:W≤256)(h3:n≤aT W):0≤bY W n∧bY W n≤W-8:=by
 by_cases h:n≤W-8
 ·rw[ja h];omega
 ·have:=lm h0 h1 (by omega) h3;omega
theorem JI{m a b:Int}(hm:1≤m)(h:a<b):a*m+m≤b*m:=by
 have:(a+1)*m≤b*m:=Int.mul_le_mul_of_nonneg_right (by omega) (by omega)
 rw[Int.add_mul] at this
 omega
theorem Ei{W l:Int}(h0:16≤W)(h1:W≤256)(h:l≤0):qy W l=0:=by
 unfold qy
 rw[Ad,KX h,gy (by omega) (by omega),kP (by omega) (by omega) (by omega) (by omega),Int.zero_mul]
 rfl
theorem Ga{W l:Int}(h0:16≤W)(h1:W≤256)(h:0≤l)(h2:l≤256):qy W l=l*(W-1):=by
 unfold qy
 have:=wZ h (show 0≤W-1 by omega) h2 (show W-1≤255 by omega)
 exact jS (by omega) (by omega) (by omega) (by omega) (by omega)
theorem JZ{m i:Int}(hm:1≤m)(hi:0≤i):i=(i/m)*m+i%m∧0≤i%m∧i%m<m∧0≤i/m:=
 ⟨by have:=Int.emod_add_mul_ediv i m;rw[Int.mul_comm] at this;omega,Int.emod_nonneg _ (by omega),Int.emod_lt_of_pos _ (by omega),Int.ediv_nonneg hi (by omega)⟩
theorem rT{W n i:Int}(h:dM W n i=0)(hn:n≤W-8):jF W n i= -1∧iR W n i=8+i:=by
 unfold jF iR;rw[if_pos h,if_pos hn,if_pos h,if_pos hn];exact⟨rfl,rfl⟩
theorem xx{W n i:Int}(h:dM W n i=0)(hn:W-8<n):jF W n i=i/(W-1)∧iR W n i=1+i%(W-1):=by
 unfold jF iR;rw[if_pos h,if_neg (by omega),if_pos h,if_neg (by omega)];exact⟨rfl,rfl⟩
theorem rU{W n i:Int}(h:dM W n i≠0):jF W n i=0∧iR W n i=0:=by
 unfold jF iR;rw[if_neg h,if_neg h];exact⟨rfl,rfl⟩
end Go.Proofs.YtbhhfnlkpieebaaGreat.Pk
