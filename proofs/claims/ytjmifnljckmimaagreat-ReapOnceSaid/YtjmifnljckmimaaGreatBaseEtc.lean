/-
  Texts laid together: Base, NumMath, PackFn, TagMath, ShapeMath.
-/
import Derived.WalkKit
import Derived.WalkSpells
import Derived.WalkLawsBesides
import Derived.Deep.QuietTactic
import Derived.BigQuiet
import Derived.Lib.Hide
import Derived.Laws.NewBlocks
import Derived.OneCell
import Derived.Laws.MakeOwn
import Derived.Laws.OwnMore
import Derived.Test.YtjmifnljckmimaaGreatProg
import Derived.IntWalk
namespace Go.Proofs.YtjmifnljckmimaaGreat.Pk
open Go.RowKit
set_option linter.unusedVariables false
set_option linter.unusedSimpArgs false
def nth(zs:List Int)(i:Nat):Int:=zs.getD i 0
def Row(w:World)(k:IntKind)(a:Option Addr)(zs:List Int):Prop:=
 ∀i,i<zs.length→∃b off,a=some ⟨b,off,none⟩∧b<w.heap.size∧w.cell? ⟨b,off+i,none⟩=some (.int k (nth zs i))
theorem Row.nil(w:World)(k:IntKind)(a:Option Addr):Row w k a []:=fun _ h=>absurd h (Nat.not_lt_zero _)
theorem Row.below{w w':World}{k:IntKind}{a:Option Addr}{zs:List Int}{B:Nat}(h:Row w k a zs)(hb:Below B w w')(hB:w.heap.size≤B):Row w' k a zs:=by
 intro i hi
 obtain⟨b,off,ha,hlt,hc⟩:=h i hi
 exact⟨b,off,ha,Nat.lt_of_lt_of_le hlt hb.size,by rw[hb.cell (p:=⟨b,off+i,none⟩) (Nat.lt_of_lt_of_le hlt hB)];exact hc⟩
theorem Row.drewN{w:World}{k:IntKind}{a:Option Addr}{zs:List Int}(h:Row w k a zs)(n:Nat):Row (w.drewN n) k a zs:=by
 intro i hi
 obtain⟨b,off,ha,hlt,hc⟩:=h i hi
 exact⟨b,off,ha,hlt,hc⟩
theorem Row.alloc{w:World}{k:IntKind}{a:Option Addr}{zs:List Int}(h:Row w k a zs)(o:Obj):Row (w.alloc o) k a zs:=
 h.below ((Below.refl w.heap.size w).alloc (Nat.le_refl _) o) (Nat.le_refl _)
theorem Row.later{w w':World}{k:IntKind}{a:Option Addr}{zs:List Int}(h:Row w k a zs)(hb:Below w.heap.size w w'):Row w' k a zs:=h.below hb (Nat.le_refl _)
theorem below_step{w w1 w2:World}(h:Below w.heap.size w w1)(h2:Below w1.heap.size w1 w2):Below w.heap.size w w2:=h.trans (h2.mono h.size)
theorem below_new(w:World)(o:Obj):Below w.heap.size w (w.alloc o):=(Below.refl _ _).alloc (Nat.le_refl _) o
theorem jI{w w1:World}(h:Below w.heap.size w w1){p:Addr}(hp:w.heap.size≤p.block)(u:Value):Below w.heap.size w (w1.setCell p u):=h.setCell hp u
theorem cell_block{w:World}{a:Addr}{v:Value}(h:w.cell? a=some v):a.block<w.heap.size:=by
 by_cases hlt:a.block<w.heap.size
 ·exact hlt
 ·unfold World.cell? at h
  rw[Array.getElem?_eq_none (by omega)] at h
  cases h
theorem cell_none{w:World}{a:Addr}{v:Value}(h:w.cell? a=some v):a.spot=none:=by
 unfold World.cell? at h
 split at h
 ·split at h
  ·cases h
  ·rename_i hs
   cases hsp:a.spot with
   |none=>rfl
   |some k=>rw[hsp] at hs;exact absurd rfl hs
 ·cases h
theorem Lc{W:World}{k:IntKind}{x:Addr}{len cap:Nat}{zs:List Int}(hl:len≤cap)(hm:cap≤maxLen)(hz:zs.length=cap)
  (hcell:∀i,i<zs.length→W.cell? (x.add i)=some (.int k (zs.getD i 0))) (hwz:∀n∈zs,(Lit.int k n).wf=true):
  ∃es:List Int,len=es.length∧Row W k (some x) es∧(∀n∈es,(Lit.int k n).wf=true)∧len≤maxLen:=by
 refine⟨zs.take len,by simp;omega,?_,fun n hn=>hwz n (List.mem_of_mem_take hn),Nat.le_trans hl hm⟩
 intro i hi
 have hi1:i<len:=by simp at hi;omega
 obtain⟨b,off,spot⟩:=x
 have hs:=cell_none (hcell 0 (by omega))
 simp[Addr.add] at hs
 subst hs
 have hadd:(⟨b,off,none⟩:Addr).add i=⟨b,off+i,none⟩:=by
  unfold Addr.add
  by_cases h0:i=0
  ·subst h0;rfl
  ·simp[h0]
 have hc:=hcell i (by omega)
 rw[hadd] at hc
 refine⟨b,off,rfl,cell_block hc,?_⟩
 rw[hc]
 unfold nth
 simp[List.getD,hi1]
def Drw(w w':World):Prop:=∃m,w'=w.drewN m
theorem Drw.refl(w:World):Drw w w:=⟨0,rfl⟩
theorem Drw.step{w w':World}(h:Drw w w')(n:Nat):Drw w (w'.drewN n):=by
 obtain⟨m,rfl⟩:=h;exact⟨m+n,World.drewN_drewN _ _ _⟩
theorem Drw.size{w w':World}(h:Drw w w'):w'.heap.size=w.heap.size:=by obtain⟨m,rfl⟩:=h;rfl
theorem Drw.below{w w':World}(h:Drw w w')(B:Nat):Below B w w':=by obtain⟨m,rfl⟩:=h;exact⟨rfl,rfl,rfl,Nat.le_refl _,fun _ _=>rfl⟩
theorem Drw.new{w w':World}(h:Drw w w'):Below w.heap.size w w':=h.below _
theorem Row.drw{w w':World}{k:IntKind}{a:Option Addr}{zs:List Int}(h:Row w k a zs)(d:Drw w w'):Row w' k a zs:=by
 obtain⟨m,rfl⟩:=d;exact h.drewN m
theorem aH{a b:Bool}(h:a=b):Ending.returned (.bool a)=.returned (.bool b):=by rw[h]
theorem bT{k:IntKind}{a b:Int}(h:a=b):Ending.returned (.int k a)=.returned (.int k b):=by rw[h]
theorem CV{P:Program}{f:FuncId}{args:Array Value}{w:World}{n:Nat}{v:Value}
  (h:Calls P f args (w.drewN n) fun e w'=>e=.returned v∧w.drewN n=w'):Calls P f args (w.drewN n) fun e w''=>e=.returned v∧∃m,w''=w.drewN m:=
 h.mono fun _ _ ⟨he,hm⟩=>⟨he,n,hm.symm⟩
theorem Row.kJ{w:World}{B:Nat}{e:TypeId}{k:IntKind}{v:Value}{zs:List Int}(h:w.ownsRow B e 1 v zs.length (zs.map (Value.int k))):
  ∃a cap,v=.slice a zs.length cap∧Row w k a zs:=by
 rcases h.2 with⟨h1,h2⟩|⟨g,cap,cur,h1,_,hg,_⟩
 ·refine⟨none,0,by rw[h1,h2],fun i hi=> ?_⟩
  omega
 ·refine⟨some ⟨g,0,none⟩,cap,h1,fun i hi=>⟨g,0,rfl,?_,?_⟩⟩
  ·by_cases hlt:g<w.heap.size
   ·exact hlt
   ·rw[Array.getElem?_eq_none (by omega)] at hg
    cases hg
  ·subst h1
   have hc:=h.cellAt i (by omega)
   rw[Nat.zero_add,hc,List.getElem?_map]
   show Option.map (Value.int k) zs[i]? =some (Value.int k (zs.getD i 0))
   simp[List.getD,hi]
theorem aI{w:World}{B:Nat}{e:TypeId}{size:Nat}{v:Value}{n:Nat}{xs:List Value}(h:w.ownsRow B e size v n xs):∀k,v.ownBlock=some k→B≤k:=by
 intro k hk
 rcases h.2 with⟨h1,_⟩|⟨g,cap,cur,h1,hb,_⟩
 ·subst h1;cases hk
 ·subst h1
  simp[Value.ownBlock] at hk
  omega
theorem Row.lit(w:World)(k:IntKind)(zs:List Int)(t:TypeId):Row (w.alloc (.cells (zs.map (Value.int k)).toArray t)) k (some ⟨w.heap.size,0,none⟩) zs:=by
 intro i hi
 refine⟨w.heap.size,0,rfl,by simp,?_⟩
 rw[Nat.zero_add,World.cell?_alloc_at _ _ _ _ rfl]
 show(zs.map (Value.int k)).toArray[i]? =some (Value.int k (zs.getD i 0))
 simp[List.getD,hi]
theorem FX{B:Nat}{W w1:World}(hb:Below B W w1):(∀b o,b<B→w1.cell? ⟨b,o,none⟩=W.cell? ⟨b,o,none⟩)∧(∀b o,b<B→w1.frozen? ⟨b,o,none⟩=W.frozen? ⟨b,o,none⟩):=
 ⟨fun b o h=>hb.cell (p:=⟨b,o,none⟩) h,fun b o h=>hb.frozen (p:=⟨b,o,none⟩) h⟩
structure Touch (X:Nat→Prop) (w w':World):Prop where
 os:w'.os=w.os
 tape:w'.tape=w.tape
 output:w'.output=w.output
 size:w.heap.size≤w'.heap.size
 block:∀k,k<w.heap.size→¬X k→w'.heap[k]? =w.heap[k]?
theorem Touch.refl(X:Nat→Prop)(w:World):Touch X w w:=⟨rfl,rfl,rfl,Nat.le_refl _,fun _ _ _=>rfl⟩
theorem Touch.trans{X:Nat→Prop}{a b c:World}(h:Touch X a b)(k:Touch X b c):Touch X a c:=
 ⟨k.os.trans h.os,k.tape.trans h.tape,k.output.trans h.output,Nat.le_trans h.size k.size,fun i hi hx=>(k.block i (Nat.lt_of_lt_of_le hi h.size) hx).trans (h.block i hi hx)⟩
theorem Touch.mono{X Y:Nat→Prop}{w w':World}(h:Touch X w w')(hXY:∀k,k<w.heap.size→X k→Y k):Touch Y w w':=
 ⟨h.os,h.tape,h.output,h.size,fun k hk hy=>h.block k hk fun hx=>hy (hXY k hk hx)⟩
theorem Touch.of_below{X:Nat→Prop}{w w':World}(h:Below w.heap.size w w'):Touch X w w':=⟨h.os,h.tape,h.output,h.size,fun k hk _=>h.block k hk⟩
theorem Touch.below{X:Nat→Prop}{w w':World}{B:Nat}(h:Touch X w w')(hX:∀k,X k→B≤k)(hB:B≤w.heap.size):Below B w w':=
 ⟨h.os,h.tape,h.output,h.size,fun k hk=>h.block k (by omega) fun hx=>by have:=hX k hx;omega⟩
theorem Touch.alloc{X:Nat→Prop}{a w:World}(h:Touch X a w)(o:Obj):Touch X a (w.alloc o):=
 ⟨h.os,h.tape,h.output,by have:=h.size;simp;omega,fun k hk hx=>(Below.heap_alloc _ _ _ (Nat.lt_of_lt_of_le hk h.size)).trans (h.block k hk hx)⟩
theorem Touch.setCell{X:Nat→Prop}{a w:World}(h:Touch X a w){p:Addr}(hp:p.block<a.heap.size→X p.block)(u:Value):Touch X a (w.setCell p u):=
 ⟨h.os,h.tape,h.output,by have:=h.size;simpa[World.setCell] using this,fun k hk hx=>(Below.heap_setCell _ _ _ _ (fun e=>by subst e;exact hx (hp hk))).trans (h.block k hk hx)⟩
theorem Touch.drewN{X:Nat→Prop}{a w:World}(h:Touch X a w)(n:Nat):Touch X a (w.drewN n):=⟨h.os,h.tape,h.output,h.size,h.block⟩
theorem Touch.drew{X:Nat→Prop}{a w:World}(h:Touch X a w):Touch X a w.drew:=⟨h.os,h.tape,h.output,h.size,h.block⟩
theorem Touch.cell{X:Nat→Prop}{w w':World}(h:Touch X w w'){p:Addr}(hp:p.block<w.heap.size)(hx:¬X p.block):w'.cell? p=w.cell? p:=World.cell?_of_block (w:=w) (h.block p.block hp hx)
theorem Touch.qb{X:Nat→Prop}{w w':World}(h:Touch X w.drew w'):Touch X w w':=⟨h.os,h.tape,h.output,h.size,h.block⟩
theorem Touch.GM{X:Nat→Prop}{w w':World}{n:Nat}(h:Touch X (w.drewN n) w'):Touch X w w':=⟨h.os,h.tape,h.output,h.size,h.block⟩
def Blk(w:World)(b:Nat)(cs:Array Value)(t:TypeId):Prop:=w.heap[b]? =some (.cells cs t (0,0))
theorem Blk.lt{w:World}{b:Nat}{cs:Array Value}{t:TypeId}(h:Blk w b cs t):b<w.heap.size:=lt_of_block h
theorem Blk.cell{w:World}{b:Nat}{cs:Array Value}{t:TypeId}(h:Blk w b cs t)(i:Nat){v:Value}(hv:cs[i]? =some v):w.cell? ⟨b,i,none⟩=some v:=by
 unfold Blk at h
 simp[World.cell?,h,hv]
theorem Blk.free{w:World}{b:Nat}{cs:Array Value}{t:TypeId}(h:Blk w b cs t)(i:Nat):w.frozen? ⟨b,i,none⟩=false:=by
 unfold Blk at h
 simp[World.frozen?,h]
theorem Blk.new(w:World)(cs:Array Value)(t:TypeId):Blk (w.alloc (.cells cs t)) w.heap.size cs t:=by
 show(w.heap.push _)[w.heap.size]? =_
 simp
theorem Blk.alloc{w:World}{b:Nat}{cs:Array Value}{t:TypeId}(h:Blk w b cs t)(o:Obj):Blk (w.alloc o) b cs t:=(Below.heap_alloc _ _ _ h.lt).trans h
theorem Blk.drewN{w:World}{b:Nat}{cs:Array Value}{t:TypeId}(h:Blk w b cs t)(n:Nat):Blk (w.drewN n) b cs t:=h
theorem Blk.drew{w:World}{b:Nat}{cs:Array Value}{t:TypeId}(h:Blk w b cs t):Blk w.drew b cs t:=h
theorem Blk.other{w:World}{b:Nat}{cs:Array Value}{t:TypeId}(h:Blk w b cs t){p:Addr}(hp:p.block≠b)(v:Value):Blk (w.setCell p v) b cs t:=(Below.heap_setCell _ _ _ _ (Ne.symm hp)).trans h
theorem Blk.set{w:World}{b:Nat}{cs:Array Value}{t:TypeId}(h:Blk w b cs t)(i:Nat)(v:Value):Blk (w.setCell ⟨b,i,none⟩ v) b (cs.setIfInBounds i v) t:=by
 have hlt:=h.lt
 unfold Blk at h
 have h':w.heap[b]=.cells cs t (0,0):=by simpa[Array.getElem?_eq_getElem hlt] using h
 show(w.heap.modify b _)[b]? =_
 rw[Array.getElem?_eq_getElem (by simpa using hlt),Array.getElem_modify_self,h']
 rfl
theorem Blk.put{w:World}{b:Nat}{cs cs':Array Value}{t:TypeId}(h:Blk w b cs t)(i:Nat)(v:Value)(e:cs.setIfInBounds i v=cs'):Blk (w.setCell ⟨b,i,none⟩ v) b cs' t:=e▸h.set i v
theorem Blk.touch{X:Nat→Prop}{w w':World}{b:Nat}{cs:Array Value}{t:TypeId}(h:Blk w b cs t)(k:Touch X w w')(hx:¬X b):Blk w' b cs t:=(k.block b h.lt hx).trans h
theorem Blk.below{w w':World}{b B:Nat}{cs:Array Value}{t:TypeId}(h:Blk w b cs t)(k:Below B w w')(hb:b<B):Blk w' b cs t:=(k.block b hb).trans h
theorem Blk.later{w w':World}{b:Nat}{cs:Array Value}{t:TypeId}(h:Blk w b cs t)(k:Below w.heap.size w w'):Blk w' b cs t:=(k.block b h.lt).trans h
def gH(X:Nat→Prop)(a:Option Addr)(zs:List Int):Prop:=0<zs.length→∀b off,a=some ⟨b,off,none⟩→¬X b
theorem Row.touch{X:Nat→Prop}{w w':World}{k:IntKind}{a:Option Addr}{zs:List Int}(h:Row w k a zs)(t:Touch X w w')(hx:gH X a zs):Row w' k a zs:=by
 intro i hi
 obtain⟨b,off,ha,hlt,hc⟩:=h i hi
 exact⟨b,off,ha,Nat.lt_of_lt_of_le hlt t.size,(t.cell (p:=⟨b,off+i,none⟩) hlt (hx (by omega) b off ha)).trans hc⟩
theorem gH.mono{X Y:Nat→Prop}{a:Option Addr}{zs:List Int}(h:gH X a zs)(hXY:∀k,Y k→X k):gH Y a zs:=fun h0 b off ha hy=>h h0 b off ha (hXY b hy)
theorem Row.out{w:World}{k:IntKind}{a:Option Addr}{zs:List Int}(h:Row w k a zs){X:Nat→Prop}(hX:∀k,X k→w.heap.size≤k):gH X a zs:=by
 intro h0 b off ha hx
 obtain⟨b',off',ha',hlt,_⟩:=h 0 h0
 rw[ha] at ha'
 cases ha'
 have:=hX b hx
 omega
def dA(f:Nat→Value)(n:Nat):Array Value:=((List.range n).map f).toArray
theorem Bt{f:Nat→Value}{n i:Nat}(h:i<n):(dA f n)[i]? =some (f i):=by simp[dA,h]
theorem kX(f:Nat→Value)(n i:Nat)(v:Value):(dA f n).setIfInBounds i v=dA (fun j=>if j=i then v else f j) n:=by
 unfold dA
 apply Array.toList_inj.1
 rw[Array.toList_setIfInBounds]
 apply List.ext_getElem
 ·simp
 ·intro j h1 h2
  have hj:j<n:=by simpa using h2
  simp[List.getElem_set]
  by_cases e:i=j
  ·subst e;simp
  ·have:¬j=i:=fun h=>e h.symm
   simp[e,this]
theorem jO{f g:Nat→Value}{n:Nat}(h:∀i,i<n→f i=g i):dA f n=dA g n:=by
 unfold dA
 congr 1
 exact List.map_congr_left (fun i hi=>h i (List.mem_range.1 hi))
theorem KE(z:Value)(hz:z.cells= #[z])(n:Nat):madeCells z.cells (n*1)=dA (fun _=>z) n:=by
 unfold madeCells dA
 have e:∀x:Nat,z.cells[x%z.cells.size]! =z:=by
  intro x
  rw[hz]
  simp[Nat.mod_one]
 simp only[e]
 apply Array.ext<;>simp
theorem Blk.arr{w:World}{q:Nat}{f:Nat→Value}{n:Nat}{t:TypeId}(h:Blk w q (dA f n) t){i:Nat}(hi:i<n):w.cell? ⟨q,i,none⟩=some (f i):=h.cell i (Bt hi)
def dR(w:World)(k:IntKind)(a:Option Addr)(zs:List Int):Prop:=
 zs.length=0∨∃b cs t,a=some ⟨b,0,none⟩∧Blk w b cs t∧∀i,i<zs.length→cs[i]? =some (.int k (nth zs i))
theorem dR.row{w:World}{k:IntKind}{a:Option Addr}{zs:List Int}(h:dR w k a zs):Row w k a zs:=by
 intro i hi
 rcases h with h|⟨b,cs,t,rfl,hb,hc⟩
 ·omega
 ·exact⟨b,0,rfl,hb.lt,by rw[Nat.zero_add];exact hb.cell i (hc i hi)⟩
theorem dR.later{w w':World}{k:IntKind}{a:Option Addr}{zs:List Int}(h:dR w k a zs)(hb:Below w.heap.size w w'):dR w' k a zs:=by
 rcases h with h|⟨b,cs,t,rfl,hk,hc⟩
 ·exact .inl h
 ·exact .inr ⟨b,cs,t,rfl,hk.later hb,hc⟩
theorem dR.drw{w w':World}{k:IntKind}{a:Option Addr}{zs:List Int}(h:dR w k a zs)(hb:Drw w w'):dR w' k a zs:=h.later hb.new
theorem dR.alloc{w:World}{k:IntKind}{a:Option Addr}{zs:List Int}(h:dR w k a zs)(o:Obj):dR (w.alloc o) k a zs:=h.later (below_new w o)
theorem dR.touch{X:Nat→Prop}{w w':World}{k:IntKind}{a:Option Addr}{zs:List Int}(h:dR w k a zs)(t:Touch X w w')(hx:gH X a zs):dR w' k a zs:=by
 rcases h with h|⟨b,cs,t',rfl,hk,hc⟩
 ·exact .inl h
 ·by_cases h0:zs.length=0
  ·exact .inl h0
  ·exact .inr ⟨b,cs,t',rfl,hk.touch t (hx (by omega) b 0 rfl),hc⟩
theorem dR.set{w:World}{k:IntKind}{zs:List Int}{b i:Nat}(h:dR w k (some ⟨b,0,none⟩) zs)(hi:i<zs.length)(v:Int):dR (w.setCell ⟨b,i,none⟩ (.int k v)) k (some ⟨b,0,none⟩) (zs.set i v):=by
 rcases h with h|⟨b',cs,t,e,hk,hc⟩
 ·omega
 ·cases e
  refine .inr ⟨b,_,t,rfl,hk.set i (.int k v),fun j hj=> ?_⟩
  have hj':j<zs.length:=by simpa using hj
  have hcj:=hc j hj'
  have hjs:j<cs.size:=(Array.getElem?_eq_some_iff.1 hcj).1
  by_cases e:j=i
  ·subst e
   rw[Array.getElem?_setIfInBounds_self_of_lt hjs]
   unfold nth;simp[List.getD,hi]
  ·rw[Array.getElem?_setIfInBounds_ne (fun h=>e h.symm),hcj]
   unfold nth
   rw[List.getD_eq_getElem?_getD,List.getD_eq_getElem?_getD,List.getElem?_set_ne (fun h=>e h.symm)]
theorem dR.at{w:World}{k:IntKind}{a:Option Addr}{zs:List Int}(h:dR w k a zs){i:Nat}(hi:i<zs.length):∃b,a=some ⟨b,0,none⟩∧b<w.heap.size∧w.cell? ⟨b,i,none⟩=some (.int k (nth zs i))∧w.frozen? ⟨b,i,none⟩=false:=by
 rcases h with h|⟨b,cs,t,rfl,hk,hc⟩
 ·omega
 ·exact⟨b,rfl,hk.lt,hk.cell i (hc i hi),hk.free i⟩
theorem dR.kJ{w:World}{B:Nat}{e:TypeId}{k:IntKind}{v:Value}{zs:List Int}(h:w.ownsRow B e 1 v zs.length (zs.map (Value.int k))):∃a cap,v=.slice a zs.length cap∧dR w k a zs:=by
 rcases h.2 with⟨h1,h2⟩|⟨g,cap,cur,h1,_,hg,_,_,_,ht⟩
 ·exact⟨none,0,by rw[h1,h2],.inl h2⟩
 ·refine⟨some ⟨g,0,none⟩,cap,h1,.inr ⟨g,cur,e,rfl,hg,fun i hi=> ?_⟩⟩
  have:(cur.toList.take (zs.length*1))[i]? =(zs.map (Value.int k))[i]? :=by rw[ht]
  rw[List.getElem?_take,if_pos (by omega),List.getElem?_map] at this
  rw[←Array.getElem?_toList,this]
  unfold nth
  simp[List.getD,hi]
def jS(n lo hi:Int):Int:=if hi<n then hi else if n<lo then lo else n
def cnt(n:Int):Int:=jS n 0 1125899906842624
def Jm(n:Int):Int:=if cnt n=0 then 1 else cnt n
def iH(a b:Int):Int:=if 0<b∧1125899906842624/b<a then 1125899906842624 else a*b
def JP(a b:Int):Int:=cnt a/Jm b
def Qt(a b:Int):Int:=(cnt a+Jm b-1)/Jm b
theorem eu(n:Int):0≤cnt n∧cnt n≤1125899906842624:=by
 unfold cnt jS;split
 ·omega
 ·split<;>omega
theorem gX{n:Int}(h0:0≤n)(h1:n≤1125899906842624):cnt n=n:=by
 unfold cnt jS;rw[if_neg (by omega),if_neg (by omega)]
theorem OI{n:Int}(h1:n≤0):cnt n=0:=by
 unfold cnt jS;rw[if_neg (by omega)];split
 ·rfl
 ·omega
theorem oF(n:Int):cnt n=max 0 (min n 1125899906842624):=by
 unfold cnt jS;split
 ·omega
 ·split<;>omega
theorem JI(n:Int):1≤Jm n∧Jm n≤1125899906842624:=by
 have:=eu n
 unfold Jm;split<;>omega
theorem Mv(n:Int):Jm n=max (cnt n) 1:=by
 have:=eu n
 unfold Jm;split<;>omega
theorem lM{a b:Int}(ha:0≤a)(hb:0≤b)(ha2:a≤1125899906842624)(hb2:b≤1125899906842624):iH a b=min 1125899906842624 (a*b):=by
 unfold iH
 by_cases h:0<b∧1125899906842624/b<a
 ·rw[if_pos h]
  have h1:=Int.emod_add_mul_ediv 1125899906842624 b
  have h2:=Int.emod_lt_of_pos 1125899906842624 h.1
  have h3:b*(1125899906842624/b+1)≤b*a:=Int.mul_le_mul_of_nonneg_left (by omega) hb
  rw[Int.mul_add,Int.mul_comm b a] at h3
  omega
 ·rw[if_neg h]
  by_cases hb0:b=0
  ·subst hb0;rw[Int.mul_zero];decide
  ·have hp:0<b:=by omega
   have h4:a≤1125899906842624/b:=by
    by_cases h5:1125899906842624/b<a
    ·exact absurd ⟨hp,h5⟩ h
    ·omega
   have h5:b*a≤b*(1125899906842624/b):=Int.mul_le_mul_of_nonneg_left h4 hb
   have h6:=Int.mul_ediv_self_le (x:=1125899906842624) (k:=b) (by omega)
   rw[Int.mul_comm b a] at h5
   omega
theorem LM{a b:Int}(ha:0≤a)(hb:0≤b)(ha2:a≤1125899906842624)(hb2:b≤1125899906842624):0≤iH a b∧iH a b≤1125899906842624:=by
 rw[lM ha hb ha2 hb2]
 have:=Int.mul_nonneg ha hb
 omega
def ik(l:List Int):Int:=l.foldl (fun s n=>cnt (s+cnt n)) 0
def kz(l:List Int):Int:=l.foldl (fun s n=>iH s (cnt n)) 1
def pg(l:List Int)(k:Nat):Int:=ik (l.take k)
def pF(l:List Int)(k:Nat):Int:=kz (l.take k)
theorem qY{l:List Int}{k:Nat}(h:k<l.length):l.take (k+1)=l.take k++[nth l k]:=by
 rw[List.take_succ_eq_append_getElem h];unfold nth;simp[List.getD,h]
theorem uJ{l:List Int}{k:Nat}(h:k<l.length):pg l (k+1)=cnt (pg l k+cnt (nth l k)):=by
 unfold pg ik;rw[qY h,List.foldl_append];rfl
theorem yj(l:List Int):pg l l.length=ik l:=by unfold pg;rw[List.take_length]
theorem vJ{l:List Int}{k:Nat}(h:k<l.length):pF l (k+1)=iH (pF l k) (cnt (nth l k)):=by
 unfold pF kz;rw[qY h,List.foldl_append];rfl
theorem yK(l:List Int):pF l l.length=kz l:=by unfold pF;rw[List.take_length]
def qV:List Int→Int
 |[]=>0
 |n::l=>cnt n+qV l
def lH:List Int→Int
 |[]=>1
 |n::l=>cnt n*lH l
theorem GG(l:List Int):0≤qV l:=by
 induction l with
 |nil=>exact Int.le_refl _
 |cons n l ih=>have:=eu n;show 0≤cnt n+qV l;omega
theorem CL(l:List Int):0≤lH l:=by
 induction l with
 |nil=>decide
 |cons n l ih=>exact Int.mul_nonneg (eu n).1 ih
theorem Dt(l m:List Int):qV (l++m)=qV l+qV m:=by
 induction l with
 |nil=>show qV m=0+qV m;omega
 |cons n l ih=>show cnt n+qV (l++m)=cnt n+qV l+qV m;rw[ih];omega
theorem Ae(l m:List Int):lH (l++m)=lH l*lH m:=by
 induction l with
 |nil=>show lH m=1*lH m;omega
 |cons n l ih=>show cnt n*lH (l++m)=cnt n*lH l*lH m;rw[ih,Int.mul_assoc]
theorem Lt(n:Int):qV [n]=cnt n:=by show cnt n+0=cnt n;omega
theorem IG(n:Int):lH [n]=cnt n:=by show cnt n*1=cnt n;omega
theorem JB(l:List Int):ik l=min 1125899906842624 (qV l):=by
 have h:∀k,k≤l.length→pg l k=min 1125899906842624 (qV (l.take k)):=by
  intro k
  induction k with
  |zero=>intro _;rfl
  |succ k ih=>
   intro hk
   rw[uJ hk,ih (by omega),qY hk,Dt,Lt,oF]
   have h1:=GG (l.take k)
   have h2:=eu (nth l k)
   omega
 have:=h l.length (Nat.le_refl _)
 rwa[yj,List.take_length] at this
theorem FW(l:List Int):0≤ik l∧ik l≤1125899906842624:=by
 rw[JB];have:=GG l;omega
theorem JC(l:List Int)(k:Nat):0≤pg l k∧pg l k≤1125899906842624:=FW _
theorem min_mul{p c:Int}(hp:0≤p)(hc:0≤c):min 1125899906842624 (min 1125899906842624 p*c)=min 1125899906842624 (p*c):=by
 by_cases h:p≤1125899906842624
 ·rw[show min 1125899906842624 p=p by omega]
 ·rw[show min 1125899906842624 p=1125899906842624 by omega]
  by_cases h0:c=0
  ·subst h0;rw[Int.mul_zero,Int.mul_zero]
  ·have h1:1125899906842624*1≤1125899906842624*c:=Int.mul_le_mul_of_nonneg_left (by omega) (by decide)
   have h2:1125899906842624*c≤p*c:=Int.mul_le_mul_of_nonneg_right (by omega) hc
   omega
theorem EM(l:List Int):∀k,k≤l.length→pF l k=min 1125899906842624 (lH (l.take k)):=by
 intro k
 induction k with
 |zero=>intro _;rfl
 |succ k ih=>
  intro hk
  have h1:=CL (l.take k)
  have h2:=eu (nth l k)
  rw[vJ hk,ih (by omega),qY hk,Ae,IG,lM (by omega) h2.1 (by omega) h2.2,min_mul h1 h2.1]
theorem Iw(l:List Int):kz l=min 1125899906842624 (lH l):=by
 have:=EM l l.length (Nat.le_refl _)
 rwa[yK,List.take_length] at this
theorem Nb(l:List Int):0≤kz l∧kz l≤1125899906842624:=by
 rw[Iw];have:=CL l;omega
theorem KG(l:List Int)(k:Nat):0≤pF l k∧pF l k≤1125899906842624:=Nb _
theorem GR(l:List Int)(n:Int):ik (l++[n])=cnt (ik l+cnt n):=by
 unfold ik;rw[List.foldl_append];rfl
theorem Be(a b:Int):ik [a,b]=cnt (cnt a+cnt b):=by
 show cnt (cnt (0+cnt a)+cnt b)=_
 rw[Int.zero_add,gX (eu a).1 (eu a).2]
theorem Cu(a b:Int):kz [a,b]=iH (cnt a) (cnt b):=by
 show iH (iH 1 (cnt a)) (cnt b)=_
 rw[lM (by decide) (eu a).1 (by decide) (eu a).2,Int.one_mul]
 have:=eu a
 rw[show min 1125899906842624 (cnt a)=cnt a by omega]
structure May (N W R K:Int):Prop where
 n0:1≤N
 n1:N≤1048576
 w0:16≤W
 w1:W≤256
 r0:1≤R
 r1:R≤4096
 k0:1≤K
 k1:K≤65536
 nw:N*W≤4194304
theorem JK{n lo hi:Int}(h0:lo≤n)(h1:n≤hi):jS n lo hi=n:=by
 unfold jS;rw[if_neg (by omega),if_neg (by omega)]
theorem lU{a b:Int}(ha:0≤a)(hb:0≤b)(h:a+b≤1125899906842624):ik [a,b]=a+b:=by
 rw[Be,gX ha (by omega),gX hb (by omega),gX (by omega) h]
theorem Mr{a b c:Int}(ha:0≤a)(hb:0≤b)(hc:0≤c)(h:a+b+c≤1125899906842624):ik [a,b,c]=a+b+c:=by
 have:=GR [a,b] c
 rw[show[a,b]++[c]=[a,b,c] from rfl,lU ha hb (by omega),gX hc (by omega),gX (by omega) h] at this
 exact this
theorem kH{a b:Int}(ha:0≤a)(hb:0≤b)(h1:a≤1125899906842624)(h2:b≤1125899906842624)(h:a*b≤1125899906842624):kz [a,b]=a*b:=by
 rw[Cu,gX ha h1,gX hb h2,lM ha hb h1 h2]
 omega
theorem Ma{a b:Int}(ha:0≤a)(h1:a≤1125899906842624)(hb:1≤b)(h2:b≤1125899906842624):Qt a b=(a+b-1)/b:=by
 have e:Jm b=b:=by unfold Jm;rw[gX (by omega) h2,if_neg (by omega)]
 unfold Qt
 rw[e,gX ha h1]
def AY(N W R:Int):Int:=24+R+N*W
def il(N W:Int):Int:=N*(W+1)
def gY(N W:Int):Int:=3*(N*(W+1))+4
def fieldsI(W:Int):Int:=(W-8)*(W-1)
def Ej(a b:Int):Int:=(a+b-1)/b
def Pg(N W K:Int):Int:=2*Ej (gY N W) K+2*(W-7)
def Aq(N W K:Int):Int:=Ej (2*gY N W+il N W) K+2
theorem yL{a b A B:Int}(ha:0≤a)(hb:0≤b)(h1:a≤A)(h2:b≤B):0≤a*b∧a*b≤A*B:=
 ⟨Int.mul_nonneg ha hb,Int.mul_le_mul h1 h2 hb (by omega)⟩
theorem Gs{N W R K:Int}(h:May N W R K):16≤N*W∧N*W≤4194304:=by
 have:=Int.mul_le_mul h.n0 h.w0 (by omega) (by have:=h.n0;omega)
 exact⟨by omega,h.nw⟩
theorem JS(N W:Int):il N W=N*W+N:=by unfold il;rw[Int.mul_add];omega
theorem BF{N W R K:Int}(h:May N W R K):17≤il N W∧il N W≤5242880:=by
 have:=Gs h
 have:=h.n0;have:=h.n1
 rw[JS];omega
theorem JV(N W:Int):gY N W=3*il N W+4:=rfl
theorem JU{N W R K:Int}(h:May N W R K):55≤gY N W∧gY N W≤15728644:=by
 have:=BF h
 rw[JV];omega
theorem ic{W:Int}(h0:16≤W)(h1:W≤256):120≤fieldsI W∧fieldsI W≤63240:=by
 have a:=Int.mul_le_mul (show(8:Int)≤W-8 by omega) (show(15:Int)≤W-1 by omega) (by omega) (by omega)
 have b:=Int.mul_le_mul (show W-8≤248 by omega) (show W-1≤255 by omega) (by omega) (by omega)
 unfold fieldsI;omega
theorem FK{a b:Int}(ha:0≤a)(hb:1≤b):0≤Ej a b∧Ej a b≤a∧a≤b*Ej a b∧b*Ej a b<a+b:=by
 unfold Ej
 have h1:=Int.emod_add_mul_ediv (a+b-1) b
 have h2:=Int.emod_nonneg (a+b-1) (show b≠0 by omega)
 have h3:=Int.emod_lt_of_pos (a+b-1) (show 0<b by omega)
 have h4:0≤(a+b-1)/b:=Int.ediv_nonneg (by omega) (by omega)
 refine⟨h4,?_,by omega,by omega⟩
 by_cases h5:a=0
 ·subst h5
  have:(0+b-1)/b=0:=Int.ediv_eq_zero_of_lt (by omega) (by omega)
  omega
 ·have h6:(a+b-1)/b<a+1:=by
   apply Int.ediv_lt_of_lt_mul (by omega)
   have h7:a*1≤a*b:=Int.mul_le_mul_of_nonneg_left hb ha
   have:(a+1)*b=a*b+b:=by rw[Int.add_mul];omega
   omega
  omega
def pw(n:Int):Int:=2^n.toNat
theorem nW(n:Int):0<pw n:=Int.pow_pos (by decide)
def dh(at' n:Int):Bool:=decide (0≤at'∧1≤n∧n≤32∧at'≤32-n)
theorem iU{a n:Int}(h:dh a n=true):0≤a∧1≤n∧n≤32∧a≤32-n:=of_decide_eq_true h
theorem IC{a n:Int}(h:dh a n=false):¬(0≤a∧1≤n∧n≤32∧a≤32-n):=of_decide_eq_false h
def gJ(w a n:Int):Int:=if dh a n=true then w/pw a%pw n else 0
def rJ(v n:Int):Bool:=decide (v<pw n)
def CR(w a n v:Int):Int:=w-gJ w a n*pw a+v*pw a
theorem Ot{m n:Int}(h:m≤n):pw m≤pw n:=by
 unfold pw
 have h1:m.toNat≤n.toNat:=by omega
 have:=Nat.pow_le_pow_right (n:=2) (by decide) h1
 exact_mod_cast this
theorem PS{m n:Int}(hm:0≤m)(hn:0≤n):pw (m+n)=pw m*pw n:=by
 unfold pw
 rw[Int.toNat_add hm hn,Int.pow_add]
theorem KZ:pw 32=4294967296:=by decide
theorem QM:pw 0=1:=by decide
theorem PT{n:Int}(h:n≤0):pw n=1:=by
 unfold pw
 have:n.toNat=0:=by omega
 rw[this];rfl
theorem Gw{n:Int}(h:n≤32):pw n≤4294967296:=by rw[←KZ];exact Ot h
theorem Nw{n:Int}(h:32≤n):4294967296≤pw n:=by rw[←KZ];exact Ot h
theorem MU{n:Int}(h1:1≤n)(h2:n≤32):(4294967295:Int)/2^(32-n).toNat=pw n-1:=by
 have e:pw n*pw (32-n)=4294967296:=by
  rw[←PS (by omega) (by omega),show n+(32-n)=32 by omega,KZ]
 have hp:=nW (32-n)
 have hq:=nW n
 show(4294967295:Int)/pw (32-n)=pw n-1
 have e2:(4294967295:Int)=(pw (32-n)-1)+(pw n-1)*pw (32-n):=by
  rw[Int.sub_mul,e];omega
 rw[e2,Int.add_mul_ediv_right _ _ (by omega),Int.ediv_eq_zero_of_lt (by omega) (by omega)]
 omega
theorem MH{w a n:Int}(h0:0≤w):0≤gJ w a n:=by
 unfold gJ;split
 ·exact Int.emod_nonneg _ (by have:=nW n;omega)
 ·exact Int.le_refl _
theorem MI{w a n:Int}:gJ w a n<pw n:=by
 unfold gJ;split
 ·exact Int.emod_lt_of_pos _ (nW n)
 ·exact nW n
theorem MG{w a n:Int}(h0:0≤w)(h1:w≤4294967295):gJ w a n≤4294967295:=by
 by_cases hp:dh a n=true
 ·have h:=iU hp
  have:=MI (w:=w) (a:=a) (n:=n)
  have:=Gw h.2.2.1
  omega
 ·have:gJ w a n=0:=by unfold gJ;rw[if_neg hp]
  omega
theorem MJ{w a n:Int}(h0:0≤w)(h1:w≤4294967295)(hp:dh a n=true):
  bits .and .u32 (w/2^a.toNat) (pw n-1)=gJ w a n:=by
 obtain⟨ha,hn1,hn2,hd⟩:=iU hp
 have hle:w/pw a≤w:=Int.ediv_le_self _ h0
 have hge:0≤w/pw a:=Int.ediv_nonneg h0 (Int.le_of_lt (nW a))
 have hm:=Gw hn2
 have hp0:=nW n
 show bits .and .u32 (w/pw a) (pw n-1)=_
 rw[u32_and _ _ hge (by omega) (by omega) (by omega)]
 unfold gJ
 rw[if_pos hp]
 obtain⟨X,hX⟩:=Int.eq_ofNat_of_zero_le hge
 rw[hX]
 have e:(pw n-1).toNat=2^n.toNat-1:=by
  unfold pw
  have:((2:Int)^n.toNat)=((2^n.toNat:Nat):Int):=by simp
  rw[this];omega
 rw[e,Int.toNat_natCast,Nat.and_two_pow_sub_one_eq_mod]
 unfold pw
 simp
theorem Fs(w a n:Nat):w=(w/2^(a+n))*2^(a+n)+(w/2^a%2^n)*2^a+w%2^a:=by
 have h1:=Nat.div_add_mod w (2^a)
 have h2:=Nat.div_add_mod (w/2^a) (2^n)
 rw[Nat.div_div_eq_div_mul,←Nat.pow_add] at h2
 have h3:2^a*(2^n*(w/2^(a+n)))=w/2^(a+n)*2^(a+n):=by
  rw[Nat.pow_add,←Nat.mul_assoc,Nat.mul_comm]
 have h4:2^a*(w/2^a)=2^a*(2^n*(w/2^(a+n)))+2^a*(w/2^a%2^n):=by
  rw[←Nat.mul_add,h2]
 have h5:2^a*(w/2^a%2^n)=w/2^a%2^n*2^a:=Nat.mul_comm _ _
 omega
theorem uw(w a n v:Nat)(hv:v<2^n)(hw:w<2^32)(hn:a+n≤32):
  (w &&& (4294967295-(2^n-1)*2^a)) ||| v*2^a=(w/2^(a+n))*2^(a+n)+v*2^a+w%2^a:=by
 have hmul:(2^n-1)*2^a<2^32:=by
  have h1:(2^n-1)*2^a<2^n*2^a:=Nat.mul_lt_mul_of_pos_right (by have:=Nat.two_pow_pos n;omega) (Nat.two_pow_pos a)
  rw[←Nat.pow_add] at h1
  exact Nat.lt_of_lt_of_le h1 (Nat.pow_le_pow_right (by decide) (by omega))
 have hlow:v*2^a+w%2^a<2^(a+n):=by
  have h1:(v+1)*2^a≤2^n*2^a:=Nat.mul_le_mul_right _ hv
  rw[Nat.add_mul,Nat.one_mul] at h1
  have h2:=Nat.mod_lt w (Nat.two_pow_pos a)
  rw[Nat.pow_add,Nat.mul_comm (2^a)]
  omega
 apply Nat.eq_of_testBit_eq
 intro j
 have e1:(4294967295-(2^n-1)*2^a)=2^32-((2^n-1)*2^a+1):=by omega
 rw[Nat.testBit_or,Nat.testBit_and,e1,Nat.testBit_two_pow_sub_succ hmul]
 rw[Nat.add_assoc,Nat.mul_comm (w/2^(a+n)),Nat.testBit_two_pow_mul_add _ hlow,Nat.mul_comm v,Nat.testBit_two_pow_mul_add _ (Nat.mod_lt w (Nat.two_pow_pos a))]
 rw[Nat.mul_comm (2^n-1),Nat.testBit_two_pow_mul,Nat.testBit_two_pow_mul,Nat.testBit_two_pow_sub_one,Nat.testBit_mod_two_pow,Nat.testBit_div_two_pow]
 by_cases hj:j<a
 ·have h1:¬a≤j:=by omega
  have h2:j<a+n:=by omega
  have h3:j<32:=by omega
  simp[hj,h1,h2,h3]
 ·by_cases hj2:j<a+n
  ·have h1:a≤j:=by omega
   have h2:j-a<n:=by omega
   simp[hj,hj2,h1,h2]
  ·have h1:a≤j:=by omega
   have h2:¬j-a<n:=by omega
   have h3:v.testBit (j-a)=false:=by
    apply Nat.testBit_lt_two_pow
    exact Nat.lt_of_lt_of_le hv (Nat.pow_le_pow_right (by decide) (by omega))
   have h4:a+n+(j-(a+n))=j:=by omega
   have h6:j-(a+n)+(a+n)=j:=by omega
   by_cases h5:j<32
   ·simp[hj,hj2,h1,h2,h3,h4,h5,h6]
   ·have hwj:w.testBit j=false:=by
     apply Nat.testBit_lt_two_pow
     exact Nat.lt_of_lt_of_le hw (Nat.pow_le_pow_right (by decide) (by omega))
    simp[hj,hj2,h1,h2,h3,h4,h5,h6,hwj]
theorem PM{w a n v:Int}(h0:0≤w)(h1:w≤4294967295)(hv0:0≤v)(hp:dh a n=true)(hf:rJ v n=true):
  bits .or .u32 (bits .andNot .u32 w (IntKind.u32.wrap ((pw n-1)*2^a.toNat))) (IntKind.u32.wrap (v*2^a.toNat))=CR w a n v:=by
 obtain⟨ha,hn1,hn2,hd⟩:=iU hp
 have hv:v<pw n:=of_decide_eq_true hf
 obtain⟨A,rfl⟩:=Int.eq_ofNat_of_zero_le ha
 obtain⟨N,rfl⟩:=Int.eq_ofNat_of_zero_le (by omega:0≤n)
 obtain⟨W,rfl⟩:=Int.eq_ofNat_of_zero_le h0
 obtain⟨V,rfl⟩:=Int.eq_ofNat_of_zero_le hv0
 have eN:pw (N:Int)=((2^N:Nat):Int):=by unfold pw;simp
 have eA:pw (A:Int)=((2^A:Nat):Int):=by unfold pw;simp
 have eA2:(2:Int)^(A:Int).toNat=((2^A:Nat):Int):=by simp
 have hV:V<2^N:=by rw[eN] at hv;exact_mod_cast hv
 have hs:A+N≤32:=by omega
 have hW:W<2^32:=by omega
 have hpos:=Nat.two_pow_pos N
 have eM:(pw (N:Int)-1)*2^(A:Int).toNat=(((2^N-1)*2^A:Nat):Int):=by
  rw[eN,eA2,Int.natCast_mul,Int.natCast_sub hpos];simp
 have eV:(V:Int)*2^(A:Int).toNat=((V*2^A:Nat):Int):=by rw[eA2,Int.natCast_mul]
 have bM:(2^N-1)*2^A<2^32:=by
  have h1:(2^N-1)*2^A<2^N*2^A:=Nat.mul_lt_mul_of_pos_right (by omega) (Nat.two_pow_pos A)
  rw[←Nat.pow_add] at h1
  exact Nat.lt_of_lt_of_le h1 (Nat.pow_le_pow_right (by decide) (by omega))
 have bV:V*2^A<2^32:=by
  have h1:V*2^A<2^N*2^A:=Nat.mul_lt_mul_of_pos_right hV (Nat.two_pow_pos A)
  rw[←Nat.pow_add] at h1
  exact Nat.lt_of_lt_of_le h1 (Nat.pow_le_pow_right (by decide) (by omega))
 rw[eM,eV,IntKind.wrap_u32,IntKind.wrap_u32]
 rw[show((((2^N-1)*2^A:Nat):Int))%4294967296=(((2^N-1)*2^A:Nat):Int) from by omega]
 rw[show((V*2^A:Nat):Int)%4294967296=((V*2^A:Nat):Int) from by omega]
 rw[u32_andNot _ _ (by omega) (by omega) (by omega) (by omega)]
 have hle:W &&& (4294967295-(2^N-1)*2^A)≤W:=Nat.and_le_left
 rw[Int.toNat_natCast,Int.toNat_natCast,u32_or _ _ (by omega) (by omega) (by omega) (by omega),Int.toNat_natCast,Int.toNat_natCast,uw W A N V hV hW hs]
 unfold CR gJ
 rw[if_pos hp,eN,eA]
 have hsw:=Fs W A N
 have e1:((W:Int)/((2^A:Nat):Int)%((2^N:Nat):Int))=((W/2^A%2^N:Nat):Int):=by simp
 rw[e1,←Int.natCast_mul,←Int.natCast_mul]
 omega
theorem JX{v n:Int}(h0:0≤v)(h1:v≤4294967295)(hn:0≤n):(v/2^min n.toNat 32==0)=rJ v n:=by
 unfold rJ
 rw[Bool.eq_iff_iff,beq_iff_eq,decide_eq_true_iff]
 by_cases h:n≤32
 ·have e:min n.toNat 32=n.toNat:=by omega
  rw[e]
  show v/pw n=0↔v<pw n
  constructor
  ·intro hz
   have h2:=Int.lt_ediv_add_one_mul_self v (nW n)
   rw[hz] at h2
   omega
  ·intro hlt;exact Int.ediv_eq_zero_of_lt h0 hlt
 ·have e:min n.toNat 32=32:=by omega
  rw[e]
  have hz:v/2^32=0:=Int.ediv_eq_zero_of_lt h0 (by omega)
  have:=Nw (n:=n) (by omega)
  constructor
  ·intro _;omega
  ·intro _;exact hz
theorem JW{v n:Int}(h0:0≤v)(hn:n≤0):(v==0)=rJ v n:=by
 unfold rJ
 rw[PT hn,Bool.eq_iff_iff,beq_iff_eq,decide_eq_true_iff]
 omega
def sumTo(zs:List Int):Nat→Int
 |0=>0
 |k+1=>sumTo zs k+nth zs k
def mM(x:Int)(zs:List Int)(k:Nat):List Int:=(List.range k).map fun j=>gJ x (sumTo zs j) (nth zs j)
theorem oh(x:Int)(zs:List Int)(k:Nat):(mM x zs k).length=k:=by simp[mM]
set_option maxHeartbeats 400000 in
theorem nQ(n:Int)(w:World)(h1:1≤n)(h2:n≤32):
  Calls Tryz.prog 231 #[.int .i64 n] w fun e w'=>e=.returned (.bool true)∧w=w':=by
 go_enter Tryz.func231,Tryz.ntmps231
 go_wp2
 go_ret
 exact⟨rfl,rfl⟩
set_option maxHeartbeats 400000 in
theorem EC(n:Int)(w:World)(h:¬(1≤n∧n≤32)):
  Calls Tryz.prog 231 #[.int .i64 n] w fun e w'=>e=.returned (.bool false)∧w=w':=by
 by_cases h1:1≤n
 ·have h2:¬n≤32:=fun h2=>h ⟨h1,h2⟩
  clear h
  go_enter Tryz.func231,Tryz.ntmps231
  go_wp2
  go_ret
  exact⟨rfl,rfl⟩
 ·clear h
  go_enter Tryz.func231,Tryz.ntmps231
  go_wp2
  go_ret
  exact⟨rfl,rfl⟩
set_option maxHeartbeats 400000 in
theorem nP(a n:Int)(w:World)(hp:dh a n=true):
  Calls Tryz.prog 224 #[.int .i64 a,.int .i64 n] w fun e w'=>e=.returned (.bool true)∧w=w':=by
 obtain⟨h0,h1,h2,h3⟩:=iU hp
 clear hp
 go_enter Tryz.func224,Tryz.ntmps224
 go_wp2_with (go_at_call 231;refine(nQ _ _ (by omega) (by omega)).mono ?_;rintro e w' ⟨rfl,rfl⟩)
 go_ret
 exact⟨rfl,rfl⟩
set_option maxHeartbeats 400000 in
theorem vw(a n:Int)(w:World)(hp:dh a n=false):
  Calls Tryz.prog 224 #[.int .i64 a,.int .i64 n] w fun e w'=>e=.returned (.bool false)∧w=w':=by
 have h:=IC hp
 clear hp
 by_cases hw:1≤n∧n≤32
 ·obtain⟨h1,h2⟩:=hw
  by_cases h0:0≤a
  ·have h3:¬a≤32-n:=fun h3=>h ⟨h0,h1,h2,h3⟩
   clear h
   go_enter Tryz.func224,Tryz.ntmps224
   go_wp2_with (go_at_call 231;refine(nQ _ _ (by omega) (by omega)).mono ?_;rintro e w' ⟨rfl,rfl⟩)
   go_ret
   exact⟨aH (decide_eq_false (by omega)),rfl⟩
  ·clear h
   go_enter Tryz.func224,Tryz.ntmps224
   go_wp2_with (go_at_call 231;refine(nQ _ _ (by omega) (by omega)).mono ?_;rintro e w' ⟨rfl,rfl⟩)
   go_ret
   exact⟨rfl,rfl⟩
 ·clear h
  have hW:Hid (¬(1≤n∧n≤32)):=hw
  clear hw
  go_enter Tryz.func224,Tryz.ntmps224
  go_wp2_with (go_at_call 231;refine(EC _ _ hW.out).mono ?_;rintro e w' ⟨rfl,rfl⟩)
  go_ret
  exact⟨rfl,rfl⟩
set_option maxHeartbeats 400000 in
theorem tC(n:Int)(w:World)(h1:1≤n)(h2:n≤32):
  Calls Tryz.prog 225 #[.int .i64 n] w fun e w'=>e=.returned (.int .u32 (pw n-1))∧w=w':=by
 go_enter Tryz.func225,Tryz.ntmps225
 go_wp2
 go_ret
 exact⟨bT (MU h1 h2),rfl⟩
set_option maxHeartbeats 400000 in
theorem BM(v n:Int)(w:World)(h0:0≤v)(h1:v≤4294967295):
  Calls Tryz.prog 228 #[.int .u32 v,.int .i64 n] w fun e w'=>e=.returned (.bool (rJ v n))∧w=w':=by
 by_cases hn:0≤n
 ·go_enter Tryz.func228,Tryz.ntmps228
  go_wp2
  go_ret
  exact⟨aH (JX h0 h1 hn),rfl⟩
 ·go_enter Tryz.func228,Tryz.ntmps228
  go_wp2
  go_ret
  exact⟨aH (JW h0 (by omega)),rfl⟩
set_option maxHeartbeats 400000 in
theorem ML(x a n:Int)(w:World)(h0:0≤x)(h1:x≤4294967295)(hp:dh a n=true):
  Calls Tryz.prog 205 #[.int .u32 x,.int .i64 a,.int .i64 n] w fun e w'=>e=.returned (.int .u32 (gJ x a n))∧∃k,w'=w.drewN k:=by
 obtain⟨g0,g1,g2,g3⟩:=iU hp
 have HG:Hid (bits .and .u32 (x/2^a.toNat) (pw n-1)=gJ x a n):=MJ h0 h1 hp
 have HP:Hid (dh a n=true):=hp
 clear hp
 go_enter Tryz.func205,Tryz.ntmps205
 go_wp2_with (go_at_call 224;refine(nP _ _ _ HP.out).mono ?_;rintro e w' ⟨rfl,rfl⟩)
 go_quiet ((go_at_call 225;exact CV (tC _ _ g1 g2)))
 go_wp2
 go_ret
 exact⟨bT HG.out,_,rfl⟩
set_option maxHeartbeats 400000 in
theorem OO(x a n:Int)(w:World)(hp:dh a n=false):
  Calls Tryz.prog 205 #[.int .u32 x,.int .i64 a,.int .i64 n] w fun e w'=>e=.returned (.int .u32 0)∧w=w':=by
 have HP:Hid (dh a n=false):=hp
 clear hp
 go_enter Tryz.func205,Tryz.ntmps205
 go_wp2_with (go_at_call 224;refine(vw _ _ _ HP.out).mono ?_;rintro e w' ⟨rfl,rfl⟩)
 go_ret
 exact⟨rfl,rfl⟩
theorem NA{a b c:Int}(h:a=b):Ending.returned (.tuple #[.int .u32 a,.int .i64 c])=.returned (.tuple #[.int .u32 b,.int .i64 c]):=by rw[h]
set_option maxHeartbeats 400000 in
theorem PL(x a n v:Int)(w:World)(hp:dh a n=false):
  Calls Tryz.prog 209 #[.int .u32 x,.int .i64 a,.int .i64 n,.int .u32 v] w fun e w'=>e=.returned (.tuple #[.int .u32 0,.int .i64 2])∧w=w':=by
 have HP:Hid (dh a n=false):=hp
 clear hp
 go_enter Tryz.func209,Tryz.ntmps209
 go_wp2_with (go_at_call 224;refine(vw _ _ _ HP.out).mono ?_;rintro e w' ⟨rfl,rfl⟩)
 go_ret2
 exact⟨rfl,rfl⟩
set_option maxHeartbeats 400000 in
theorem Nu(x a n v:Int)(w:World)(hp:dh a n=true)(hv0:0≤v)(hv1:v≤4294967295)(hf:rJ v n=false):
  Calls Tryz.prog 209 #[.int .u32 x,.int .i64 a,.int .i64 n,.int .u32 v] w fun e w'=>e=.returned (.tuple #[.int .u32 0,.int .i64 15])∧w=w':=by
 have HP:Hid (dh a n=true):=hp
 clear hp
 go_enter Tryz.func209,Tryz.ntmps209
 go_wp2_with (first|(go_at_call 224;refine(nP _ _ _ HP.out).mono ?_;rintro e w' ⟨rfl,rfl⟩)|(go_at_call 228;refine(BM _ _ _ hv0 hv1).mono ?_;rintro e w' ⟨rfl,rfl⟩))
 go_ret2
 exact⟨rfl,rfl⟩
set_option maxHeartbeats 400000 in
theorem Nv(x a n v:Int)(w:World)(h0:0≤x)(h1:x≤4294967295)(hp:dh a n=true)(hv0:0≤v)(hv1:v≤4294967295)(hf:rJ v n=true):
  Calls Tryz.prog 209 #[.int .u32 x,.int .i64 a,.int .i64 n,.int .u32 v] w fun e w'=>e=.returned (.tuple #[.int .u32 (CR x a n v),.int .i64 0])∧∃k,w'=w.drewN k:=by
 obtain⟨g0,g1,g2,g3⟩:=iU hp
 have HG:Hid (bits .or .u32 (bits .andNot .u32 x (IntKind.u32.wrap ((pw n-1)*2^a.toNat))) (IntKind.u32.wrap (v*2^a.toNat))=CR x a n v):=PM h0 h1 hv0 hp hf
 have HP:Hid (dh a n=true):=hp
 clear hp
 go_enter Tryz.func209,Tryz.ntmps209
 go_wp2_with (first|(go_at_call 224;refine(nP _ _ _ HP.out).mono ?_;rintro e w' ⟨rfl,rfl⟩)|(go_at_call 228;refine(BM _ _ _ hv0 hv1).mono ?_;rintro e w' ⟨rfl,rfl⟩))
 go_quiet ((go_at_call 225;exact CV (tC _ _ g1 g2)))
 go_wp2
 go_ret2
 exact⟨NA HG.out,_,rfl⟩
def part(x:Int)(zs:List Int)(k:Nat):List Value:=(mM x zs k++List.replicate (zs.length-k) 0).map (Value.int .u32)
def Ju(x:Int)(zs:List Int)(w:World)(e:Ending)(w':World):Prop:=
 ∃a cap,e=.returned (.tuple #[.slice a zs.length cap,.int .i64 0])∧Row w' .u32 a (mM x zs zs.length)∧Below w.heap.size w w'
theorem Ju.mk{x:Int}{zs:List Int}{w w':World}{v:Value}{B:Nat}{t:TypeId}
  (h:w'.ownsRow B t 1 v zs.length ((mM x zs zs.length).map (Value.int .u32))) (hb:Below w.heap.size w w'):Ju x zs w (.returned (.tuple #[v,.int .i64 0])) w':=by
 have h2:w'.ownsRow B t 1 v (mM x zs zs.length).length ((mM x zs zs.length).map (Value.int .u32)):=by rw[oh];exact h
 obtain⟨a,cap,hv,hr⟩:=Row.kJ h2
 rw[oh] at hv
 exact⟨a,cap,by rw[hv],hr,hb⟩
def qP(x a n v:Int):Int:=if dh a n=true then(if rJ v n=true then CR x a n v else 0) else 0
def KV(a n v:Int):Int:=if dh a n=true then(if rJ v n=true then 0 else 15) else 2
theorem CU{x a n v:Int}(h1:dh a n=true)(h2:rJ v n=true):qP x a n v=CR x a n v:=by unfold qP;rw[if_pos h1,if_pos h2]
theorem KW{a n v:Int}(h1:dh a n=true)(h2:rJ v n=true):KV a n v=0:=by unfold KV;rw[if_pos h1,if_pos h2]
theorem vU{a b c d:Int}(h:a=b)(h2:c=d):Ending.returned (.tuple #[.int .u32 a,.int .i64 c])=.returned (.tuple #[.int .u32 b,.int .i64 d]):=by rw[h,h2]
theorem MK(x a n:Int)(w:World)(h0:0≤x)(h1:x≤4294967295):
  Calls Tryz.prog 205 #[.int .u32 x,.int .i64 a,.int .i64 n] w fun e w'=>e=.returned (.int .u32 (gJ x a n))∧Drw w w':=by
 cases hp:dh a n
 ·refine(OO x a n w hp).mono fun e w' ⟨he,hw⟩=>⟨?_,hw▸Drw.refl w⟩
  rw[he];exact bT (by unfold gJ;rw[hp];rfl)
 ·exact ML x a n w h0 h1 hp
theorem Nt(x a n v:Int)(w:World)(h0:0≤x)(h1:x≤4294967295)(hv0:0≤v)(hv1:v≤4294967295):
  Calls Tryz.prog 209 #[.int .u32 x,.int .i64 a,.int .i64 n,.int .u32 v] w fun e w'=>e=.returned (.tuple #[.int .u32 (qP x a n v),.int .i64 (KV a n v)])∧Drw w w':=by
 cases hp:dh a n
 ·refine(PL x a n v w hp).mono fun e w' ⟨he,hw⟩=>⟨?_,hw▸Drw.refl w⟩
  rw[he];exact vU (by unfold qP;rw[hp];rfl) (by unfold KV;rw[hp];rfl)
 ·cases hf:rJ v n
  ·refine(Nu x a n v w hp hv0 hv1 hf).mono fun e w' ⟨he,hw⟩=>⟨?_,hw▸Drw.refl w⟩
   rw[he];exact vU (by unfold qP;rw[hp,hf];rfl) (by unfold KV;rw[hp,hf];rfl)
  ·refine(Nv x a n v w h0 h1 hp hv0 hv1 hf).mono fun e w' ⟨he,hw⟩=>⟨?_,hw⟩
   rw[he];exact vU (CU hp hf).symm (KW hp hf).symm
open Classical in
open Classical in
open Classical in
open Classical in
def iR(n b:Int):Bool:=decide (0≤n∧n<b)
theorem Gi{n b:Int}(h:iR n b=true):0≤n∧n<b:=of_decide_eq_true h
theorem OZ{n b:Int}(h:0≤n∧n<b):iR n b=true:=decide_eq_true h
theorem Gh{n b:Int}(h:¬(0≤n∧n<b)):iR n b=false:=decide_eq_false h
def sP(c n s d g:Int):Bool:=iR c 2&&iR n 2&&iR s 2&&iR d 2&&iR g 2
def pG(c n s d g:Int):Bool:=decide (c=0∧n=0∧s=0∧d=0∧g=0)
def dx(k c n s d g o:Int):Bool:=iR k 4&&iR o 1048576&&(k==3||o==0)&&sP c n s d g&&(!(k==0||k==3)||pG c n s d g)
def bB(k c n s d g o:Int):Prop:=
 (0≤k∧k<4)∧(0≤o∧o<1048576)∧(k=3∨o=0)∧(0≤c∧c<2)∧(0≤n∧n<2)∧(0≤s∧s<2)∧(0≤d∧d<2)∧(0≤g∧g<2)∧((k=0∨k=3)→c=0∧n=0∧s=0∧d=0∧g=0)
theorem iV{k c n s d g o:Int}:dx k c n s d g o=true↔bB k c n s d g o:=by
 unfold dx bB sP pG iR
 simp only[Bool.and_eq_true,Bool.or_eq_true,Bool.not_eq_true',Bool.or_eq_false_iff,decide_eq_true_eq,beq_iff_eq,beq_eq_false_iff_ne,ne_eq]
 omega
theorem vX{k c n s d g o:Int}(h:dx k c n s d g o=true):bB k c n s d g o:=iV.1 h
theorem jM{k c n s d g o:Int}(h:bB k c n s d g o):dx k c n s d g o=true:=iV.2 h
theorem IJ{k c n s d g o:Int}(h:¬bB k c n s d g o):dx k c n s d g o=false:=by
 cases h2:dx k c n s d g o with
 |false=>rfl
 |true=>exact absurd (vX h2) h
theorem uP{a b:Bool}(h:a=true↔b=true):a=b:=by cases a<;>cases b<;>simp_all
theorem yM{c n s d g:Int}:pG c n s d g=true↔c=0∧n=0∧s=0∧d=0∧g=0:=by unfold pG;simp
theorem GY{c n s d g:Int}:sP c n s d g=true↔(0≤c∧c<2)∧(0≤n∧n<2)∧(0≤s∧s<2)∧(0≤d∧d<2)∧(0≤g∧g<2):=by
 unfold sP iR;simp[and_assoc]
theorem QR{k c n s d g o:Int}(h:iR k 4=false):dx k c n s d g o=false:=by unfold dx;rw[h];rfl
theorem QS{k c n s d g o:Int}(h:iR o 1048576=false):dx k c n s d g o=false:=by unfold dx;rw[h];simp
theorem PU{k c n s d g o:Int}(h:¬k=3)(h2:¬o=0):dx k c n s d g o=false:=by
 refine IJ fun hr=> ?_
 obtain⟨_,_,h3,_⟩:=hr
 omega
theorem QQ{c n s d g o:Int}(h:iR o 1048576=true):dx 3 c n s d g o=pG c n s d g:=by
 have:=Gi h
 refine uP ?_
 rw[iV,yM];unfold bB
 omega
theorem QP{c n s d g:Int}:dx 0 c n s d g 0=pG c n s d g:=by
 refine uP ?_
 rw[iV,yM];unfold bB
 omega
theorem QT{k c n s d g:Int}(h:iR k 4=true)(h0:¬k=0)(h3:¬k=3):dx k c n s d g 0=sP c n s d g:=by
 have:=Gi h
 refine uP ?_
 rw[iV,GY];unfold bB
 omega
def bI(k c n s d g o:Int):Int:=k+4*c+8*n+16*s+32*d+64*g+256*o
theorem KX{x a n v:Int}(h0:0≤x)(hx:x<pw a)(hp:dh a n=true):CR x a n v=x+v*pw a:=by
 unfold CR gJ
 rw[if_pos hp,Int.ediv_eq_zero_of_lt h0 hx]
 simp
theorem ko{x a n v:Int}(h0:0≤x)(hx:x<pw a)(hp:dh a n=true)(hf:v<pw n):qP x a n v=x+v*pw a:=by
 rw[CU hp (decide_eq_true hf),KX h0 hx hp]
theorem xB:pw 1=2:=by decide
theorem KY:pw 2=4:=by decide
theorem PN:pw 3=8:=by decide
theorem PO:pw 4=16:=by decide
theorem PP:pw 5=32:=by decide
theorem PQ:pw 6=64:=by decide
theorem PR:pw 8=256:=by decide
theorem Oq:pw 24=16777216:=by decide
def Pw(k:Int):Int:=qP 0 0 2 k
def Px(k c:Int):Int:=qP (Pw k) 2 1 c
def Py(k c n:Int):Int:=qP (Px k c) 3 1 n
def Pz(k c n s:Int):Int:=qP (Py k c n) 4 1 s
def PD(k c n s d:Int):Int:=qP (Pz k c n s) 5 1 d
def PE(k c n s d g:Int):Int:=qP (PD k c n s d) 6 1 g
def Rl(k c n s d g o:Int):Int:=qP (PE k c n s d g) 8 24 o
theorem PG{k c n s d g o:Int}(h:bB k c n s d g o):
  Rl k c n s d g o=bI k c n s d g o∧(0≤Pw k∧Pw k≤4294967295)∧(0≤Px k c∧Px k c≤4294967295)∧(0≤Py k c n∧Py k c n≤4294967295)∧(0≤Pz k c n s∧Pz k c n s≤4294967295)∧(0≤PD k c n s d∧PD k c n s d≤4294967295)∧(0≤PE k c n s d g∧PE k c n s d g≤4294967295):=by
 obtain⟨h1,h2,h3,h4,h5,h6,h7,h8,h9⟩:=h
 have e0:Pw k=k:=by
  unfold Pw;rw[ko (by omega) (by decide) (by decide) (by rw[KY];omega),QM];omega
 have e1:Px k c=k+4*c:=by
  unfold Px;rw[e0,ko (by omega) (by rw[KY];omega) (by decide) (by rw[xB];omega),KY];omega
 have e2:Py k c n=k+4*c+8*n:=by
  unfold Py;rw[e1,ko (by omega) (by rw[PN];omega) (by decide) (by rw[xB];omega),PN];omega
 have e3:Pz k c n s=k+4*c+8*n+16*s:=by
  unfold Pz;rw[e2,ko (by omega) (by rw[PO];omega) (by decide) (by rw[xB];omega),PO];omega
 have e4:PD k c n s d=k+4*c+8*n+16*s+32*d:=by
  unfold PD;rw[e3,ko (by omega) (by rw[PP];omega) (by decide) (by rw[xB];omega),PP];omega
 have e5:PE k c n s d g=k+4*c+8*n+16*s+32*d+64*g:=by
  unfold PE;rw[e4,ko (by omega) (by rw[PQ];omega) (by decide) (by rw[xB];omega),PQ];omega
 have e6:Rl k c n s d g o=k+4*c+8*n+16*s+32*d+64*g+256*o:=by
  unfold Rl;rw[e5,ko (by omega) (by rw[PR];omega) (by decide) (by rw[Oq];omega),PR];omega
 unfold bI
 omega
def uK(x:Int):Int:=x%4
def uC(x:Int):Int:=x/4%2
def uN(x:Int):Int:=x/8%2
def uS(x:Int):Int:=x/16%2
def uD(x:Int):Int:=x/32%2
def uG(x:Int):Int:=x/64%2
def uO(x:Int):Int:=x/256
theorem OU(x:Int):gJ x 0 2=uK x:=by
 unfold gJ uK;rw[if_pos (by decide),QM,KY,Int.ediv_one]
theorem OP(x:Int):gJ x 2 1=uC x:=by unfold gJ uC;rw[if_pos (by decide),xB,KY]
theorem OV(x:Int):gJ x 3 1=uN x:=by unfold gJ uN;rw[if_pos (by decide),xB,PN]
theorem OX(x:Int):gJ x 4 1=uS x:=by unfold gJ uS;rw[if_pos (by decide),xB,PO]
theorem OQ(x:Int):gJ x 5 1=uD x:=by unfold gJ uD;rw[if_pos (by decide),xB,PP]
theorem OT(x:Int):gJ x 6 1=uG x:=by unfold gJ uG;rw[if_pos (by decide),xB,PQ]
theorem OW{x:Int}(h0:0≤x)(h1:x≤4294967295):gJ x 8 24=uO x:=by
 unfold gJ uO;rw[if_pos (by decide),PR,Oq];omega
theorem unpack_pack{k c n s d g o:Int}(h:bB k c n s d g o):
  uK (bI k c n s d g o)=k∧uC (bI k c n s d g o)=c∧uN (bI k c n s d g o)=n∧uS (bI k c n s d g o)=s∧uD (bI k c n s d g o)=d∧uG (bI k c n s d g o)=g∧uO (bI k c n s d g o)=o:=by
 obtain⟨h1,h2,h3,h4,h5,h6,h7,h8,h9⟩:=h
 unfold bI uK uC uN uS uD uG uO
 omega
theorem CG(x:Int):bI (uK x) (uC x) (uN x) (uS x) (uD x) (uG x) (uO x)=x-128*(x/128%2):=by
 unfold bI uK uC uN uS uD uG uO
 omega
def AX(W:Int):Bool:=decide (16≤W∧W≤256)
theorem ry{W:Int}(h:AX W=true):16≤W∧W≤256:=of_decide_eq_true h
theorem uB{W:Int}(h0:16≤W)(h1:W≤256):AX W=true:=decide_eq_true ⟨h0,h1⟩
theorem Eg{W:Int}(h:¬(16≤W∧W≤256)):AX W=false:=decide_eq_false h
def cO(W n:Int):Int:=if n≤W-8 then 0 else Ej n (W-1)
def sF(l:Int):Int:=if l= -1 then 8 else 1
def rD(W l:Int):Int:=kz [l,W-1]
def dZ(W n:Int):Int:=if AX W=true then(if n<0∨fieldsI W<n then 3 else 0) else 1
def dI(W p d:Int):Int:=if AX W=true then(if p<0∨d<0∨fieldsI W<p+d then 3 else 0) else 1
def bK(W p d:Int):Int:=if dI W p d=0 then 1+cO W (p+d) else 0
def dY(W n i:Int):Int:=if dZ W n=0 then(if i<0∨n≤i then 7 else 0) else dZ W n
def jZ(W n i:Int):Int:=if dY W n i=0 then(if n≤W-8 then -1 else i/(W-1)) else 0
def jr(W n i:Int):Int:=if dY W n i=0 then(if n≤W-8 then 8+i else 1+i%(W-1)) else 0
theorem zm{W n:Int}(h:dZ W n=0):16≤W∧W≤256∧0≤n∧n≤fieldsI W:=by
 unfold dZ at h
 split at h
 ·rename_i hw
  have:=ry hw
  split at h
  ·cases h
  ·omega
 ·cases h
theorem Jl{W n:Int}(h0:16≤W)(h1:W≤256)(h2:0≤n)(h3:n≤fieldsI W):dZ W n=0:=by
 unfold dZ;rw[if_pos (uB h0 h1),if_neg (by omega)]
theorem qU{W p d:Int}(h:dI W p d=0):16≤W∧W≤256∧0≤p∧0≤d∧p+d≤fieldsI W:=by
 unfold dI at h
 split at h
 ·rename_i hw
  have:=ry hw
  split at h
  ·cases h
  ·omega
 ·cases h
theorem yT{W n i:Int}(h:dY W n i=0):dZ W n=0∧0≤i∧i<n:=by
 unfold dY at h
 split at h
 ·split at h
  ·cases h
  ·exact⟨by assumption,by omega,by omega⟩
 ·exact absurd h (by assumption)
theorem yS{W n i:Int}(h:dZ W n=0)(h0:0≤i)(h1:i<n):dY W n i=0:=by
 unfold dY;rw[if_pos h,if_neg (by omega)]
theorem mh{W n:Int}(h0:16≤W)(h1:W≤256)(h2:W-8<n)(h3:n≤fieldsI W):
  1≤cO W n∧cO W n≤W-8∧n≤cO W n*(W-1)∧cO W n*(W-1)<n+W-1:=by
 have e:cO W n=Ej n (W-1):=by unfold cO;rw[if_neg (by omega)]
 have u:=FK (a:=n) (b:=W-1) (by omega) (by omega)
 rw[e]
 rw[Int.mul_comm (W-1)] at u
 refine⟨?_,?_,u.2.2.1,by omega⟩
 ·by_cases h:1≤Ej n (W-1)
  ·exact h
  ·have:Ej n (W-1)=0:=by omega
   rw[this,Int.zero_mul] at u
   omega
 ·by_cases h:Ej n (W-1)≤W-8
  ·exact h
  ·have h4:(W-8+1)*(W-1)≤Ej n (W-1)*(W-1):=Int.mul_le_mul_of_nonneg_right (by omega) (by omega)
   rw[Int.add_mul] at h4
   have:(W-8)*(W-1)=fieldsI W:=rfl
   omega
theorem jC{W n:Int}(h:n≤W-8):cO W n=0:=by unfold cO;rw[if_pos h]
theorem lw{W n:Int}(h0:16≤W)(h1:W≤256)(h3:n≤fieldsI W):0≤cO W n∧cO W n≤W-8:=by
 by_cases h:n≤W-8
 ·rw[jC h];omega
 ·have:=mh h0 h1 (by omega) h3;omega
theorem MR{m a b:Int}(hm:1≤m)(h:a<b):a*m+m≤b*m:=by
 have:(a+1)*m≤b*m:=Int.mul_le_mul_of_nonneg_right (by omega) (by omega)
 rw[Int.add_mul] at this
 omega
theorem GU{W l:Int}(h0:16≤W)(h1:W≤256)(h:l≤0):rD W l=0:=by
 unfold rD
 rw[Cu,OI h,gX (by omega) (by omega),lM (by omega) (by omega) (by omega) (by omega),Int.zero_mul]
 rfl
theorem JE{W l:Int}(h0:16≤W)(h1:W≤256)(h:0≤l)(h2:l≤256):rD W l=l*(W-1):=by
 unfold rD
 have:=yL h (show 0≤W-1 by omega) h2 (show W-1≤255 by omega)
 exact kH (by omega) (by omega) (by omega) (by omega) (by omega)
theorem Nl{m i:Int}(hm:1≤m)(hi:0≤i):i=(i/m)*m+i%m∧0≤i%m∧i%m<m∧0≤i/m:=
 ⟨by have:=Int.emod_add_mul_ediv i m;rw[Int.mul_comm] at this;omega,Int.emod_nonneg _ (by omega),Int.emod_lt_of_pos _ (by omega),Int.ediv_nonneg hi (by omega)⟩
theorem tL{W n i:Int}(h:dY W n i=0)(hn:n≤W-8):jZ W n i= -1∧jr W n i=8+i:=by
 unfold jZ jr;rw[if_pos h,if_pos hn,if_pos h,if_pos hn];exact⟨rfl,rfl⟩
theorem yU{W n i:Int}(h:dY W n i=0)(hn:W-8<n):jZ W n i=i/(W-1)∧jr W n i=1+i%(W-1):=by
 unfold jZ jr;rw[if_pos h,if_neg (by omega),if_pos h,if_neg (by omega)];exact⟨rfl,rfl⟩
theorem tN{W n i:Int}(h:dY W n i≠0):jZ W n i=0∧jr W n i=0:=by
 unfold jZ jr;rw[if_neg h,if_neg h];exact⟨rfl,rfl⟩
end Go.Proofs.YtjmifnljckmimaaGreat.Pk
