/-
  Texts laid together: Base, NumMath, PackFn, TagMath, ShapeMath.
-/
import Derived.WalkKit
import Derived.WalkSpells
import Derived.WalkLawsBesides
import Derived.Deep.QuietTactic
import Derived.BigQuiet
import Derived.Lib.Hide
import Derived.Laws.NewBlocks
import Derived.OneCell
import Derived.Laws.MakeOwn
import Derived.Laws.OwnMore
import Derived.Test.YtbhhfnlkpieebaaGreatProg
import Derived.IntWalk
namespace Go.Proofs.YtbhhfnlkpieebaaGreat.Pk
open Go.RowKit
set_option linter.unusedVariables false
set_option linter.unusedSimpArgs false
def nth(zs:List Int)(i:Nat):Int:=zs.getD i 0
def Row(w:World)(k:IntKind)(a:Option Addr)(zs:List Int):Prop:=
 ∀i,i<zs.length→∃b off,a=some ⟨b,off,none⟩∧b<w.heap.size∧w.cell? ⟨b,off+i,none⟩=some (.int k (nth zs i))
theorem Row.nil(w:World)(k:IntKind)(a:Option Addr):Row w k a []:=fun _ h=>absurd h (Nat.not_lt_zero _)
theorem Row.below{w w':World}{k:IntKind}{a:Option Addr}{zs:List Int}{B:Nat}(h:Row w k a zs)(hb:Below B w w')(hB:w.heap.size≤B):Row w' k a zs:=by
 intro i hi
 obtain⟨b,off,ha,hlt,hc⟩:=h i hi
 exact⟨b,off,ha,Nat.lt_of_lt_of_le hlt hb.size,by rw[hb.cell (p:=⟨b,off+i,none⟩) (Nat.lt_of_lt_of_le hlt hB)];exact hc⟩
theorem Row.drewN{w:World}{k:IntKind}{a:Option Addr}{zs:List Int}(h:Row w k a zs)(n:Nat):Row (w.drewN n) k a zs:=by
 intro i hi
 obtain⟨b,off,ha,hlt,hc⟩:=h i hi
 exact⟨b,off,ha,hlt,hc⟩
theorem Row.alloc{w:World}{k:IntKind}{a:Option Addr}{zs:List Int}(h:Row w k a zs)(o:Obj):Row (w.alloc o) k a zs:=
 h.below ((Below.refl w.heap.size w).alloc (Nat.le_refl _) o) (Nat.le_refl _)
theorem Row.later{w w':World}{k:IntKind}{a:Option Addr}{zs:List Int}(h:Row w k a zs)(hb:Below w.heap.size w w'):Row w' k a zs:=h.below hb (Nat.le_refl _)
theorem below_step{w w1 w2:World}(h:Below w.heap.size w w1)(h2:Below w1.heap.size w1 w2):Below w.heap.size w w2:=h.trans (h2.mono h.size)
theorem below_new(w:World)(o:Obj):Below w.heap.size w (w.alloc o):=(Below.refl _ _).alloc (Nat.le_refl _) o
theorem jQ{w w1:World}(h:Below w.heap.size w w1){p:Addr}(hp:w.heap.size≤p.block)(u:Value):Below w.heap.size w (w1.setCell p u):=h.setCell hp u
theorem uU{w:World}{a:Addr}{v:Value}(h:w.cell? a=some v):a.block<w.heap.size:=by
 by_cases hlt:a.block<w.heap.size
 ·exact hlt
 ·unfold World.cell? at h
  rw[Array.getElem?_eq_none (by omega)] at h
  cases h
theorem xK{w:World}{a:Addr}{v:Value}(h:w.cell? a=some v):a.spot=none:=by
 unfold World.cell? at h
 split at h
 ·split at h
  ·cases h
  ·rename_i hs
   cases hsp:a.spot with
   |none=>rfl
   |some k=>rw[hsp] at hs;exact absurd rfl hs
 ·cases h
theorem Jw{W:World}{k:IntKind}{x:Addr}{len cap:Nat}{zs:List Int}(hl:len≤cap)(hm:cap≤maxLen)(hz:zs.length=cap)
  (hcell:∀i,i<zs.length→W.cell? (x.add i)=some (.int k (zs.getD i 0))) (hwz:∀n∈zs,(Lit.int k n).wf=true):
  ∃es:List Int,len=es.length∧Row W k (some x) es∧(∀n∈es,(Lit.int k n).wf=true)∧len≤maxLen:=by
 refine⟨zs.take len,by simp;omega,?_,fun n hn=>hwz n (List.mem_of_mem_take hn),Nat.le_trans hl hm⟩
 intro i hi
 have hi1:i<len:=by simp at hi;omega
 obtain⟨b,off,spot⟩:=x
 have hs:=xK (hcell 0 (by omega))
 simp[Addr.add] at hs
 subst hs
 have hadd:(⟨b,off,none⟩:Addr).add i=⟨b,off+i,none⟩:=by
  unfold Addr.add
  by_cases h0:i=0
  ·subst h0;rfl
  ·simp[h0]
 have hc:=hcell i (by omega)
 rw[hadd] at hc
 refine⟨b,off,rfl,uU hc,?_⟩
 rw[hc]
 unfold nth
 simp[List.getD,hi1]
def iW(w w':World):Prop:=∃m,w'=w.drewN m
theorem iW.refl(w:World):iW w w:=⟨0,rfl⟩
theorem iW.step{w w':World}(h:iW w w')(n:Nat):iW w (w'.drewN n):=by
 obtain⟨m,rfl⟩:=h;exact⟨m+n,World.drewN_drewN _ _ _⟩
theorem iW.size{w w':World}(h:iW w w'):w'.heap.size=w.heap.size:=by obtain⟨m,rfl⟩:=h;rfl
theorem iW.below{w w':World}(h:iW w w')(B:Nat):Below B w w':=by obtain⟨m,rfl⟩:=h;exact⟨rfl,rfl,rfl,Nat.le_refl _,fun _ _=>rfl⟩
theorem iW.new{w w':World}(h:iW w w'):Below w.heap.size w w':=h.below _
theorem Row.CQ{w w':World}{k:IntKind}{a:Option Addr}{zs:List Int}(h:Row w k a zs)(d:iW w w'):Row w' k a zs:=by
 obtain⟨m,rfl⟩:=d;exact h.drewN m
theorem aI{a b:Bool}(h:a=b):Ending.returned (.bool a)=.returned (.bool b):=by rw[h]
theorem bY{k:IntKind}{a b:Int}(h:a=b):Ending.returned (.int k a)=.returned (.int k b):=by rw[h]
theorem BL{P:Program}{f:FuncId}{args:Array Value}{w:World}{n:Nat}{v:Value}
  (h:Calls P f args (w.drewN n) fun e w'=>e=.returned v∧w.drewN n=w'):Calls P f args (w.drewN n) fun e w''=>e=.returned v∧∃m,w''=w.drewN m:=
 h.mono fun _ _ ⟨he,hm⟩=>⟨he,n,hm.symm⟩
theorem Row.of_owns{w:World}{B:Nat}{e:TypeId}{k:IntKind}{v:Value}{zs:List Int}(h:w.ownsRow B e 1 v zs.length (zs.map (Value.int k))):
  ∃a cap,v=.slice a zs.length cap∧Row w k a zs:=by
 rcases h.2 with⟨h1,h2⟩|⟨g,cap,cur,h1,_,hg,_⟩
 ·refine⟨none,0,by rw[h1,h2],fun i hi=> ?_⟩
  omega
 ·refine⟨some ⟨g,0,none⟩,cap,h1,fun i hi=>⟨g,0,rfl,?_,?_⟩⟩
  ·by_cases hlt:g<w.heap.size
   ·exact hlt
   ·rw[Array.getElem?_eq_none (by omega)] at hg
    cases hg
  ·subst h1
   have hc:=h.cellAt i (by omega)
   rw[Nat.zero_add,hc,List.getElem?_map]
   show Option.map (Value.int k) zs[i]? =some (Value.int k (zs.getD i 0))
   simp[List.getD,hi]
theorem owns_block{w:World}{B:Nat}{e:TypeId}{size:Nat}{v:Value}{n:Nat}{xs:List Value}(h:w.ownsRow B e size v n xs):∀k,v.ownBlock=some k→B≤k:=by
 intro k hk
 rcases h.2 with⟨h1,_⟩|⟨g,cap,cur,h1,hb,_⟩
 ·subst h1;cases hk
 ·subst h1
  simp[Value.ownBlock] at hk
  omega
theorem Row.lit(w:World)(k:IntKind)(zs:List Int)(t:TypeId):Row (w.alloc (.cells (zs.map (Value.int k)).toArray t)) k (some ⟨w.heap.size,0,none⟩) zs:=by
 intro i hi
 refine⟨w.heap.size,0,rfl,by simp,?_⟩
 rw[Nat.zero_add,World.cell?_alloc_at _ _ _ _ rfl]
 show(zs.map (Value.int k)).toArray[i]? =some (Value.int k (zs.getD i 0))
 simp[List.getD,hi]
theorem Ep{B:Nat}{W w1:World}(hb:Below B W w1):(∀b o,b<B→w1.cell? ⟨b,o,none⟩=W.cell? ⟨b,o,none⟩)∧(∀b o,b<B→w1.frozen? ⟨b,o,none⟩=W.frozen? ⟨b,o,none⟩):=
 ⟨fun b o h=>hb.cell (p:=⟨b,o,none⟩) h,fun b o h=>hb.frozen (p:=⟨b,o,none⟩) h⟩
structure Touch (X:Nat→Prop) (w w':World):Prop where
 os:w'.os=w.os
 tape:w'.tape=w.tape
 output:w'.output=w.output
 size:w.heap.size≤w'.heap.size
 block:∀k,k<w.heap.size→¬X k→w'.heap[k]? =w.heap[k]?
theorem Touch.refl(X:Nat→Prop)(w:World):Touch X w w:=⟨rfl,rfl,rfl,Nat.le_refl _,fun _ _ _=>rfl⟩
theorem Touch.trans{X:Nat→Prop}{a b c:World}(h:Touch X a b)(k:Touch X b c):Touch X a c:=
 ⟨k.os.trans h.os,k.tape.trans h.tape,k.output.trans h.output,Nat.le_trans h.size k.size,fun i hi hx=>(k.block i (Nat.lt_of_lt_of_le hi h.size) hx).trans (h.block i hi hx)⟩
theorem Touch.mono{X Y:Nat→Prop}{w w':World}(h:Touch X w w')(hXY:∀k,k<w.heap.size→X k→Y k):Touch Y w w':=
 ⟨h.os,h.tape,h.output,h.size,fun k hk hy=>h.block k hk fun hx=>hy (hXY k hk hx)⟩
theorem Touch.of_below{X:Nat→Prop}{w w':World}(h:Below w.heap.size w w'):Touch X w w':=⟨h.os,h.tape,h.output,h.size,fun k hk _=>h.block k hk⟩
theorem Touch.below{X:Nat→Prop}{w w':World}{B:Nat}(h:Touch X w w')(hX:∀k,X k→B≤k)(hB:B≤w.heap.size):Below B w w':=
 ⟨h.os,h.tape,h.output,h.size,fun k hk=>h.block k (by omega) fun hx=>by have:=hX k hx;omega⟩
theorem Touch.alloc{X:Nat→Prop}{a w:World}(h:Touch X a w)(o:Obj):Touch X a (w.alloc o):=
 ⟨h.os,h.tape,h.output,by have:=h.size;simp;omega,fun k hk hx=>(Below.heap_alloc _ _ _ (Nat.lt_of_lt_of_le hk h.size)).trans (h.block k hk hx)⟩
theorem Touch.setCell{X:Nat→Prop}{a w:World}(h:Touch X a w){p:Addr}(hp:p.block<a.heap.size→X p.block)(u:Value):Touch X a (w.setCell p u):=
 ⟨h.os,h.tape,h.output,by have:=h.size;simpa[World.setCell] using this,fun k hk hx=>(Below.heap_setCell _ _ _ _ (fun e=>by subst e;exact hx (hp hk))).trans (h.block k hk hx)⟩
theorem Touch.drewN{X:Nat→Prop}{a w:World}(h:Touch X a w)(n:Nat):Touch X a (w.drewN n):=⟨h.os,h.tape,h.output,h.size,h.block⟩
theorem Touch.drew{X:Nat→Prop}{a w:World}(h:Touch X a w):Touch X a w.drew:=⟨h.os,h.tape,h.output,h.size,h.block⟩
theorem Touch.cell{X:Nat→Prop}{w w':World}(h:Touch X w w'){p:Addr}(hp:p.block<w.heap.size)(hx:¬X p.block):w'.cell? p=w.cell? p:=World.cell?_of_block (w:=w) (h.block p.block hp hx)
theorem Touch.qa{X:Nat→Prop}{w w':World}(h:Touch X w.drew w'):Touch X w w':=⟨h.os,h.tape,h.output,h.size,h.block⟩
def Blk(w:World)(b:Nat)(cs:Array Value)(t:TypeId):Prop:=w.heap[b]? =some (.cells cs t (0,0))
theorem Blk.lt{w:World}{b:Nat}{cs:Array Value}{t:TypeId}(h:Blk w b cs t):b<w.heap.size:=lt_of_block h
theorem Blk.cell{w:World}{b:Nat}{cs:Array Value}{t:TypeId}(h:Blk w b cs t)(i:Nat){v:Value}(hv:cs[i]? =some v):w.cell? ⟨b,i,none⟩=some v:=by
 unfold Blk at h
 simp[World.cell?,h,hv]
theorem Blk.free{w:World}{b:Nat}{cs:Array Value}{t:TypeId}(h:Blk w b cs t)(i:Nat):w.frozen? ⟨b,i,none⟩=false:=by
 unfold Blk at h
 simp[World.frozen?,h]
theorem Blk.new(w:World)(cs:Array Value)(t:TypeId):Blk (w.alloc (.cells cs t)) w.heap.size cs t:=by
 show(w.heap.push _)[w.heap.size]? =_
 simp
theorem Blk.alloc{w:World}{b:Nat}{cs:Array Value}{t:TypeId}(h:Blk w b cs t)(o:Obj):Blk (w.alloc o) b cs t:=(Below.heap_alloc _ _ _ h.lt).trans h
theorem Blk.drewN{w:World}{b:Nat}{cs:Array Value}{t:TypeId}(h:Blk w b cs t)(n:Nat):Blk (w.drewN n) b cs t:=h
theorem Blk.drew{w:World}{b:Nat}{cs:Array Value}{t:TypeId}(h:Blk w b cs t):Blk w.drew b cs t:=h
theorem Blk.other{w:World}{b:Nat}{cs:Array Value}{t:TypeId}(h:Blk w b cs t){p:Addr}(hp:p.block≠b)(v:Value):Blk (w.setCell p v) b cs t:=(Below.heap_setCell _ _ _ _ (Ne.symm hp)).trans h
theorem Blk.set{w:World}{b:Nat}{cs:Array Value}{t:TypeId}(h:Blk w b cs t)(i:Nat)(v:Value):Blk (w.setCell ⟨b,i,none⟩ v) b (cs.setIfInBounds i v) t:=by
 have hlt:=h.lt
 unfold Blk at h
 have h':w.heap[b]=.cells cs t (0,0):=by simpa[Array.getElem?_eq_getElem hlt] using h
 show(w.heap.modify b _)[b]? =_
 rw[Array.getElem?_eq_getElem (by simpa using hlt),Array.getElem_modify_self,h']
 rfl
theorem Blk.put{w:World}{b:Nat}{cs cs':Array Value}{t:TypeId}(h:Blk w b cs t)(i:Nat)(v:Value)(e:cs.setIfInBounds i v=cs'):Blk (w.setCell ⟨b,i,none⟩ v) b cs' t:=e▸h.set i v
theorem Blk.touch{X:Nat→Prop}{w w':World}{b:Nat}{cs:Array Value}{t:TypeId}(h:Blk w b cs t)(k:Touch X w w')(hx:¬X b):Blk w' b cs t:=(k.block b h.lt hx).trans h
theorem Blk.below{w w':World}{b B:Nat}{cs:Array Value}{t:TypeId}(h:Blk w b cs t)(k:Below B w w')(hb:b<B):Blk w' b cs t:=(k.block b hb).trans h
theorem Blk.later{w w':World}{b:Nat}{cs:Array Value}{t:TypeId}(h:Blk w b cs t)(k:Below w.heap.size w w'):Blk w' b cs t:=(k.block b h.lt).trans h
def RowOut(X:Nat→Prop)(a:Option Addr)(zs:List Int):Prop:=0<zs.length→∀b off,a=some ⟨b,off,none⟩→¬X b
theorem Row.touch{X:Nat→Prop}{w w':World}{k:IntKind}{a:Option Addr}{zs:List Int}(h:Row w k a zs)(t:Touch X w w')(hx:RowOut X a zs):Row w' k a zs:=by
 intro i hi
 obtain⟨b,off,ha,hlt,hc⟩:=h i hi
 exact⟨b,off,ha,Nat.lt_of_lt_of_le hlt t.size,(t.cell (p:=⟨b,off+i,none⟩) hlt (hx (by omega) b off ha)).trans hc⟩
theorem RowOut.mono{X Y:Nat→Prop}{a:Option Addr}{zs:List Int}(h:RowOut X a zs)(hXY:∀k,Y k→X k):RowOut Y a zs:=fun h0 b off ha hy=>h h0 b off ha (hXY b hy)
theorem Row.out{w:World}{k:IntKind}{a:Option Addr}{zs:List Int}(h:Row w k a zs){X:Nat→Prop}(hX:∀k,X k→w.heap.size≤k):RowOut X a zs:=by
 intro h0 b off ha hx
 obtain⟨b',off',ha',hlt,_⟩:=h 0 h0
 rw[ha] at ha'
 cases ha'
 have:=hX b hx
 omega
def ji(f:Nat→Value)(n:Nat):Array Value:=((List.range n).map f).toArray
theorem Ak{f:Nat→Value}{n i:Nat}(h:i<n):(ji f n)[i]? =some (f i):=by simp[ji,h]
theorem Al(f:Nat→Value)(n i:Nat)(v:Value):(ji f n).setIfInBounds i v=ji (fun j=>if j=i then v else f j) n:=by
 unfold ji
 apply Array.toList_inj.1
 rw[Array.toList_setIfInBounds]
 apply List.ext_getElem
 ·simp
 ·intro j h1 h2
  have hj:j<n:=by simpa using h2
  simp[List.getElem_set]
  by_cases e:i=j
  ·subst e;simp
  ·have:¬j=i:=fun h=>e h.symm
   simp[e,this]
theorem uP{f g:Nat→Value}{n:Nat}(h:∀i,i<n→f i=g i):ji f n=ji g n:=by
 unfold ji
 congr 1
 exact List.map_congr_left (fun i hi=>h i (List.mem_range.1 hi))
theorem Jb(z:Value)(hz:z.cells= #[z])(n:Nat):madeCells z.cells (n*1)=ji (fun _=>z) n:=by
 unfold madeCells ji
 have e:∀x:Nat,z.cells[x%z.cells.size]! =z:=by
  intro x
  rw[hz]
  simp[Nat.mod_one]
 simp only[e]
 apply Array.ext<;>simp
theorem Blk.arr{w:World}{q:Nat}{f:Nat→Value}{n:Nat}{t:TypeId}(h:Blk w q (ji f n) t){i:Nat}(hi:i<n):w.cell? ⟨q,i,none⟩=some (f i):=h.cell i (Ak hi)
def OwnR(w:World)(k:IntKind)(a:Option Addr)(zs:List Int):Prop:=
 zs.length=0∨∃b cs t,a=some ⟨b,0,none⟩∧Blk w b cs t∧∀i,i<zs.length→cs[i]? =some (.int k (nth zs i))
theorem OwnR.row{w:World}{k:IntKind}{a:Option Addr}{zs:List Int}(h:OwnR w k a zs):Row w k a zs:=by
 intro i hi
 rcases h with h|⟨b,cs,t,rfl,hb,hc⟩
 ·omega
 ·exact⟨b,0,rfl,hb.lt,by rw[Nat.zero_add];exact hb.cell i (hc i hi)⟩
theorem OwnR.later{w w':World}{k:IntKind}{a:Option Addr}{zs:List Int}(h:OwnR w k a zs)(hb:Below w.heap.size w w'):OwnR w' k a zs:=by
 rcases h with h|⟨b,cs,t,rfl,hk,hc⟩
 ·exact .inl h
 ·exact .inr ⟨b,cs,t,rfl,hk.later hb,hc⟩
theorem OwnR.CQ{w w':World}{k:IntKind}{a:Option Addr}{zs:List Int}(h:OwnR w k a zs)(hb:iW w w'):OwnR w' k a zs:=h.later hb.new
theorem OwnR.alloc{w:World}{k:IntKind}{a:Option Addr}{zs:List Int}(h:OwnR w k a zs)(o:Obj):OwnR (w.alloc o) k a zs:=h.later (below_new w o)
theorem OwnR.touch{X:Nat→Prop}{w w':World}{k:IntKind}{a:Option Addr}{zs:List Int}(h:OwnR w k a zs)(t:Touch X w w')(hx:RowOut X a zs):OwnR w' k a zs:=by
 rcases h with h|⟨b,cs,t',rfl,hk,hc⟩
 ·exact .inl h
 ·by_cases h0:zs.length=0
  ·exact .inl h0
  ·exact .inr ⟨b,cs,t',rfl,hk.touch t (hx (by omega) b 0 rfl),hc⟩
theorem OwnR.set{w:World}{k:IntKind}{zs:List Int}{b i:Nat}(h:OwnR w k (some ⟨b,0,none⟩) zs)(hi:i<zs.length)(v:Int):OwnR (w.setCell ⟨b,i,none⟩ (.int k v)) k (some ⟨b,0,none⟩) (zs.set i v):=by
 rcases h with h|⟨b',cs,t,e,hk,hc⟩
 ·omega
 ·cases e
  refine .inr ⟨b,_,t,rfl,hk.set i (.int k v),fun j hj=> ?_⟩
  have hj':j<zs.length:=by simpa using hj
  have hcj:=hc j hj'
  have hjs:j<cs.size:=(Array.getElem?_eq_some_iff.1 hcj).1
  by_cases e:j=i
  ·subst e
   rw[Array.getElem?_setIfInBounds_self_of_lt hjs]
   unfold nth;simp[List.getD,hi]
  ·rw[Array.getElem?_setIfInBounds_ne (fun h=>e h.symm),hcj]
   unfold nth
   rw[List.getD_eq_getElem?_getD,List.getD_eq_getElem?_getD,List.getElem?_set_ne (fun h=>e h.symm)]
theorem OwnR.at{w:World}{k:IntKind}{a:Option Addr}{zs:List Int}(h:OwnR w k a zs){i:Nat}(hi:i<zs.length):∃b,a=some ⟨b,0,none⟩∧b<w.heap.size∧w.cell? ⟨b,i,none⟩=some (.int k (nth zs i))∧w.frozen? ⟨b,i,none⟩=false:=by
 rcases h with h|⟨b,cs,t,rfl,hk,hc⟩
 ·omega
 ·exact⟨b,rfl,hk.lt,hk.cell i (hc i hi),hk.free i⟩
theorem OwnR.of_owns{w:World}{B:Nat}{e:TypeId}{k:IntKind}{v:Value}{zs:List Int}(h:w.ownsRow B e 1 v zs.length (zs.map (Value.int k))):∃a cap,v=.slice a zs.length cap∧OwnR w k a zs:=by
 rcases h.2 with⟨h1,h2⟩|⟨g,cap,cur,h1,_,hg,_,_,_,ht⟩
 ·exact⟨none,0,by rw[h1,h2],.inl h2⟩
 ·refine⟨some ⟨g,0,none⟩,cap,h1,.inr ⟨g,cur,e,rfl,hg,fun i hi=> ?_⟩⟩
  have:(cur.toList.take (zs.length*1))[i]? =(zs.map (Value.int k))[i]? :=by rw[ht]
  rw[List.getElem?_take,if_pos (by omega),List.getElem?_map] at this
  rw[←Array.getElem?_toList,this]
  unfold nth
  simp[List.getD,hi]
def jY(n lo hi:Int):Int:=if hi<n then hi else if n<lo then lo else n
def cnt(n:Int):Int:=jY n 0 1125899906842624
def GM(n:Int):Int:=if cnt n=0 then 1 else cnt n
def iP(a b:Int):Int:=if 0<b∧1125899906842624/b<a then 1125899906842624 else a*b
def Io(a b:Int):Int:=cnt a/GM b
def NT(a b:Int):Int:=(cnt a+GM b-1)/GM b
theorem eF(n:Int):0≤cnt n∧cnt n≤1125899906842624:=by
 unfold cnt jY;split
 ·omega
 ·split<;>omega
theorem ib{n:Int}(h0:0≤n)(h1:n≤1125899906842624):cnt n=n:=by
 unfold cnt jY;rw[if_neg (by omega),if_neg (by omega)]
theorem Mq{n:Int}(h1:n≤0):cnt n=0:=by
 unfold cnt jY;rw[if_neg (by omega)];split
 ·rfl
 ·omega
theorem oF(n:Int):cnt n=max 0 (min n 1125899906842624):=by
 unfold cnt jY;split
 ·omega
 ·split<;>omega
theorem Ig(n:Int):1≤GM n∧GM n≤1125899906842624:=by
 have:=eF n
 unfold GM;split<;>omega
theorem Kn(n:Int):GM n=max (cnt n) 1:=by
 have:=eF n
 unfold GM;split<;>omega
theorem lV{a b:Int}(ha:0≤a)(hb:0≤b)(ha2:a≤1125899906842624)(hb2:b≤1125899906842624):iP a b=min 1125899906842624 (a*b):=by
 unfold iP
 by_cases h:0<b∧1125899906842624/b<a
 ·rw[if_pos h]
  have h1:=Int.emod_add_mul_ediv 1125899906842624 b
  have h2:=Int.emod_lt_of_pos 1125899906842624 h.1
  have h3:b*(1125899906842624/b+1)≤b*a:=Int.mul_le_mul_of_nonneg_left (by omega) hb
  rw[Int.mul_add,Int.mul_comm b a] at h3
  omega
 ·rw[if_neg h]
  by_cases hb0:b=0
  ·subst hb0;rw[Int.mul_zero];decide
  ·have hp:0<b:=by omega
   have h4:a≤1125899906842624/b:=by
    by_cases h5:1125899906842624/b<a
    ·exact absurd ⟨hp,h5⟩ h
    ·omega
   have h5:b*a≤b*(1125899906842624/b):=Int.mul_le_mul_of_nonneg_left h4 hb
   have h6:=Int.mul_ediv_self_le (x:=1125899906842624) (k:=b) (by omega)
   rw[Int.mul_comm b a] at h5
   omega
theorem JR{a b:Int}(ha:0≤a)(hb:0≤b)(ha2:a≤1125899906842624)(hb2:b≤1125899906842624):0≤iP a b∧iP a b≤1125899906842624:=by
 rw[lV ha hb ha2 hb2]
 have:=Int.mul_nonneg ha hb
 omega
def iC(l:List Int):Int:=l.foldl (fun s n=>cnt (s+cnt n)) 0
def kN(l:List Int):Int:=l.foldl (fun s n=>iP s (cnt n)) 1
def pu(l:List Int)(k:Nat):Int:=iC (l.take k)
def pG(l:List Int)(k:Nat):Int:=kN (l.take k)
theorem qX{l:List Int}{k:Nat}(h:k<l.length):l.take (k+1)=l.take k++[nth l k]:=by
 rw[List.take_succ_eq_append_getElem h];unfold nth;simp[List.getD,h]
theorem uM{l:List Int}{k:Nat}(h:k<l.length):pu l (k+1)=cnt (pu l k+cnt (nth l k)):=by
 unfold pu iC;rw[qX h,List.foldl_append];rfl
theorem xH(l:List Int):pu l l.length=iC l:=by unfold pu;rw[List.take_length]
theorem vL{l:List Int}{k:Nat}(h:k<l.length):pG l (k+1)=iP (pG l k) (cnt (nth l k)):=by
 unfold pG kN;rw[qX h,List.foldl_append];rfl
theorem yc(l:List Int):pG l l.length=kN l:=by unfold pG;rw[List.take_length]
def qV:List Int→Int
 |[]=>0
 |n::l=>cnt n+qV l
def lN:List Int→Int
 |[]=>1
 |n::l=>cnt n*lN l
theorem Ff(l:List Int):0≤qV l:=by
 induction l with
 |nil=>exact Int.le_refl _
 |cons n l ih=>have:=eF n;show 0≤cnt n+qV l;omega
theorem BF(l:List Int):0≤lN l:=by
 induction l with
 |nil=>decide
 |cons n l ih=>exact Int.mul_nonneg (eF n).1 ih
theorem Cb(l m:List Int):qV (l++m)=qV l+qV m:=by
 induction l with
 |nil=>show qV m=0+qV m;omega
 |cons n l ih=>show cnt n+qV (l++m)=cnt n+qV l+qV m;rw[ih];omega
theorem zu(l m:List Int):lN (l++m)=lN l*lN m:=by
 induction l with
 |nil=>show lN m=1*lN m;omega
 |cons n l ih=>show cnt n*lN (l++m)=cnt n*lN l*lN m;rw[ih,Int.mul_assoc]
theorem JC(n:Int):qV [n]=cnt n:=by show cnt n+0=cnt n;omega
theorem Gi(n:Int):lN [n]=cnt n:=by show cnt n*1=cnt n;omega
theorem Ho(l:List Int):iC l=min 1125899906842624 (qV l):=by
 have h:∀k,k≤l.length→pu l k=min 1125899906842624 (qV (l.take k)):=by
  intro k
  induction k with
  |zero=>intro _;rfl
  |succ k ih=>
   intro hk
   rw[uM hk,ih (by omega),qX hk,Cb,JC,oF]
   have h1:=Ff (l.take k)
   have h2:=eF (nth l k)
   omega
 have:=h l.length (Nat.le_refl _)
 rwa[xH,List.take_length] at this
theorem Eo(l:List Int):0≤iC l∧iC l≤1125899906842624:=by
 rw[Ho];have:=Ff l;omega
theorem Hr(l:List Int)(k:Nat):0≤pu l k∧pu l k≤1125899906842624:=Eo _
theorem min_mul{p c:Int}(hp:0≤p)(hc:0≤c):min 1125899906842624 (min 1125899906842624 p*c)=min 1125899906842624 (p*c):=by
 by_cases h:p≤1125899906842624
 ·rw[show min 1125899906842624 p=p by omega]
 ·rw[show min 1125899906842624 p=1125899906842624 by omega]
  by_cases h0:c=0
  ·subst h0;rw[Int.mul_zero,Int.mul_zero]
  ·have h1:1125899906842624*1≤1125899906842624*c:=Int.mul_le_mul_of_nonneg_left (by omega) (by decide)
   have h2:1125899906842624*c≤p*c:=Int.mul_le_mul_of_nonneg_right (by omega) hc
   omega
theorem Dv(l:List Int):∀k,k≤l.length→pG l k=min 1125899906842624 (lN (l.take k)):=by
 intro k
 induction k with
 |zero=>intro _;rfl
 |succ k ih=>
  intro hk
  have h1:=BF (l.take k)
  have h2:=eF (nth l k)
  rw[vL hk,ih (by omega),qX hk,zu,Gi,lV (by omega) h2.1 (by omega) h2.2,min_mul h1 h2.1]
theorem FZ(l:List Int):kN l=min 1125899906842624 (lN l):=by
 have:=Dv l l.length (Nat.le_refl _)
 rwa[yc,List.take_length] at this
theorem KR(l:List Int):0≤kN l∧kN l≤1125899906842624:=by
 rw[FZ];have:=BF l;omega
theorem Jc(l:List Int)(k:Nat):0≤pG l k∧pG l k≤1125899906842624:=KR _
theorem Fq(l:List Int)(n:Int):iC (l++[n])=cnt (iC l+cnt n):=by
 unfold iC;rw[List.foldl_append];rfl
theorem Ac(a b:Int):iC [a,b]=cnt (cnt a+cnt b):=by
 show cnt (cnt (0+cnt a)+cnt b)=_
 rw[Int.zero_add,ib (eF a).1 (eF a).2]
theorem Bq(a b:Int):kN [a,b]=iP (cnt a) (cnt b):=by
 show iP (iP 1 (cnt a)) (cnt b)=_
 rw[lV (by decide) (eF a).1 (by decide) (eF a).2,Int.one_mul]
 have:=eF a
 rw[show min 1125899906842624 (cnt a)=cnt a by omega]
structure May (N W R K:Int):Prop where
 n0:1≤N
 n1:N≤1048576
 w0:16≤W
 w1:W≤256
 r0:1≤R
 r1:R≤4096
 k0:1≤K
 k1:K≤65536
 nw:N*W≤4194304
theorem Ii{n lo hi:Int}(h0:lo≤n)(h1:n≤hi):jY n lo hi=n:=by
 unfold jY;rw[if_neg (by omega),if_neg (by omega)]
theorem ma{a b:Int}(ha:0≤a)(hb:0≤b)(h:a+b≤1125899906842624):iC [a,b]=a+b:=by
 rw[Ac,ib ha (by omega),ib hb (by omega),ib (by omega) h]
theorem Kk{a b c:Int}(ha:0≤a)(hb:0≤b)(hc:0≤c)(h:a+b+c≤1125899906842624):iC [a,b,c]=a+b+c:=by
 have:=Fq [a,b] c
 rw[show[a,b]++[c]=[a,b,c] from rfl,ma ha hb (by omega),ib hc (by omega),ib (by omega) h] at this
 exact this
theorem kR{a b:Int}(ha:0≤a)(hb:0≤b)(h1:a≤1125899906842624)(h2:b≤1125899906842624)(h:a*b≤1125899906842624):kN [a,b]=a*b:=by
 rw[Bq,ib ha h1,ib hb h2,lV ha hb h1 h2]
 omega
theorem JZ{a b:Int}(ha:0≤a)(h1:a≤1125899906842624)(hb:1≤b)(h2:b≤1125899906842624):NT a b=(a+b-1)/b:=by
 have e:GM b=b:=by unfold GM;rw[ib (by omega) h2,if_neg (by omega)]
 unfold NT
 rw[e,ib ha h1]
def zW(N W R:Int):Int:=24+R+N*W
def iE(N W:Int):Int:=N*(W+1)
def ic(N W:Int):Int:=3*(N*(W+1))+4
def aV(W:Int):Int:=(W-8)*(W-1)
def CR(a b:Int):Int:=(a+b-1)/b
def MI(N W K:Int):Int:=2*CR (ic N W) K+2*(W-7)
def zB(N W K:Int):Int:=CR (2*ic N W+iE N W) K+2
theorem yf{a b A B:Int}(ha:0≤a)(hb:0≤b)(h1:a≤A)(h2:b≤B):0≤a*b∧a*b≤A*B:=
 ⟨Int.mul_nonneg ha hb,Int.mul_le_mul h1 h2 hb (by omega)⟩
theorem EO{N W R K:Int}(h:May N W R K):16≤N*W∧N*W≤4194304:=by
 have:=Int.mul_le_mul h.n0 h.w0 (by omega) (by have:=h.n0;omega)
 exact⟨by omega,h.nw⟩
theorem Ir(N W:Int):iE N W=N*W+N:=by unfold iE;rw[Int.mul_add];omega
theorem Ay{N W R K:Int}(h:May N W R K):17≤iE N W∧iE N W≤5242880:=by
 have:=EO h
 have:=h.n0;have:=h.n1
 rw[Ir];omega
theorem Iz(N W:Int):ic N W=3*iE N W+4:=rfl
theorem Iy{N W R K:Int}(h:May N W R K):55≤ic N W∧ic N W≤15728644:=by
 have:=Ay h
 rw[Iz];omega
theorem iy{W:Int}(h0:16≤W)(h1:W≤256):120≤aV W∧aV W≤63240:=by
 have a:=Int.mul_le_mul (show(8:Int)≤W-8 by omega) (show(15:Int)≤W-1 by omega) (by omega) (by omega)
 have b:=Int.mul_le_mul (show W-8≤248 by omega) (show W-1≤255 by omega) (by omega) (by omega)
 unfold aV;omega
theorem Eg{a b:Int}(ha:0≤a)(hb:1≤b):0≤CR a b∧CR a b≤a∧a≤b*CR a b∧b*CR a b<a+b:=by
 unfold CR
 have h1:=Int.emod_add_mul_ediv (a+b-1) b
 have h2:=Int.emod_nonneg (a+b-1) (show b≠0 by omega)
 have h3:=Int.emod_lt_of_pos (a+b-1) (show 0<b by omega)
 have h4:0≤(a+b-1)/b:=Int.ediv_nonneg (by omega) (by omega)
 refine⟨h4,?_,by omega,by omega⟩
 by_cases h5:a=0
 ·subst h5
  have:(0+b-1)/b=0:=Int.ediv_eq_zero_of_lt (by omega) (by omega)
  omega
 ·have h6:(a+b-1)/b<a+1:=by
   apply Int.ediv_lt_of_lt_mul (by omega)
   have h7:a*1≤a*b:=Int.mul_le_mul_of_nonneg_left hb ha
   have:(a+1)*b=a*b+b:=by rw[Int.add_mul];omega
   omega
  omega
def pw(n:Int):Int:=2^n.toNat
theorem nZ(n:Int):0<pw n:=Int.pow_pos (by decide)
def dn(at' n:Int):Bool:=decide (0≤at'∧1≤n∧n≤32∧at'≤32-n)
theorem jb{a n:Int}(h:dn a n=true):0≤a∧1≤n∧n≤32∧a≤32-n:=of_decide_eq_true h
theorem Gh{a n:Int}(h:dn a n=false):¬(0≤a∧1≤n∧n≤32∧a≤32-n):=of_decide_eq_false h
def gN(w a n:Int):Int:=if dn a n=true then w/pw a%pw n else 0
def rO(v n:Int):Bool:=decide (v<pw n)
def BI(w a n v:Int):Int:=w-gN w a n*pw a+v*pw a
theorem Mg{m n:Int}(h:m≤n):pw m≤pw n:=by
 unfold pw
 have h1:m.toNat≤n.toNat:=by omega
 have:=Nat.pow_le_pow_right (n:=2) (by decide) h1
 exact_mod_cast this
theorem Nr{m n:Int}(hm:0≤m)(hn:0≤n):pw (m+n)=pw m*pw n:=by
 unfold pw
 rw[Int.toNat_add hm hn,Int.pow_add]
theorem Ju:pw 32=4294967296:=by decide
theorem Ol:pw 0=1:=by decide
theorem Ns{n:Int}(h:n≤0):pw n=1:=by
 unfold pw
 have:n.toNat=0:=by omega
 rw[this];rfl
theorem EW{n:Int}(h:n≤32):pw n≤4294967296:=by rw[←Ju];exact Mg h
theorem Lr{n:Int}(h:32≤n):4294967296≤pw n:=by rw[←Ju];exact Mg h
theorem KM{n:Int}(h1:1≤n)(h2:n≤32):(4294967295:Int)/2^(32-n).toNat=pw n-1:=by
 have e:pw n*pw (32-n)=4294967296:=by
  rw[←Nr (by omega) (by omega),show n+(32-n)=32 by omega,Ju]
 have hp:=nZ (32-n)
 have hq:=nZ n
 show(4294967295:Int)/pw (32-n)=pw n-1
 have e2:(4294967295:Int)=(pw (32-n)-1)+(pw n-1)*pw (32-n):=by
  rw[Int.sub_mul,e];omega
 rw[e2,Int.add_mul_ediv_right _ _ (by omega),Int.ediv_eq_zero_of_lt (by omega) (by omega)]
 omega
theorem Ky{w a n:Int}(h0:0≤w):0≤gN w a n:=by
 unfold gN;split
 ·exact Int.emod_nonneg _ (by have:=nZ n;omega)
 ·exact Int.le_refl _
theorem Kz{w a n:Int}:gN w a n<pw n:=by
 unfold gN;split
 ·exact Int.emod_lt_of_pos _ (nZ n)
 ·exact nZ n
theorem Kw{w a n:Int}(h0:0≤w)(h1:w≤4294967295):gN w a n≤4294967295:=by
 by_cases hp:dn a n=true
 ·have h:=jb hp
  have:=Kz (w:=w) (a:=a) (n:=n)
  have:=EW h.2.2.1
  omega
 ·have:gN w a n=0:=by unfold gN;rw[if_neg hp]
  omega
theorem KA{w a n:Int}(h0:0≤w)(h1:w≤4294967295)(hp:dn a n=true):
  bits .and .u32 (w/2^a.toNat) (pw n-1)=gN w a n:=by
 obtain⟨ha,hn1,hn2,hd⟩:=jb hp
 have hle:w/pw a≤w:=Int.ediv_le_self _ h0
 have hge:0≤w/pw a:=Int.ediv_nonneg h0 (Int.le_of_lt (nZ a))
 have hm:=EW hn2
 have hp0:=nZ n
 show bits .and .u32 (w/pw a) (pw n-1)=_
 rw[u32_and _ _ hge (by omega) (by omega) (by omega)]
 unfold gN
 rw[if_pos hp]
 obtain⟨X,hX⟩:=Int.eq_ofNat_of_zero_le hge
 rw[hX]
 have e:(pw n-1).toNat=2^n.toNat-1:=by
  unfold pw
  have:((2:Int)^n.toNat)=((2^n.toNat:Nat):Int):=by simp
  rw[this];omega
 rw[e,Int.toNat_natCast,Nat.and_two_pow_sub_one_eq_mod]
 unfold pw
 simp
theorem DT(w a n:Nat):w=(w/2^(a+n))*2^(a+n)+(w/2^a%2^n)*2^a+w%2^a:=by
 have h1:=Nat.div_add_mod w (2^a)
 have h2:=Nat.div_add_mod (w/2^a) (2^n)
 rw[Nat.div_div_eq_div_mul,←Nat.pow_add] at h2
 have h3:2^a*(2^n*(w/2^(a+n)))=w/2^(a+n)*2^(a+n):=by
  rw[Nat.pow_add,←Nat.mul_assoc,Nat.mul_comm]
 have h4:2^a*(w/2^a)=2^a*(2^n*(w/2^(a+n)))+2^a*(w/2^a%2^n):=by
  rw[←Nat.mul_add,h2]
 have h5:2^a*(w/2^a%2^n)=w/2^a%2^n*2^a:=Nat.mul_comm _ _
 omega
theorem uB(w a n v:Nat)(hv:v<2^n)(hw:w<2^32)(hn:a+n≤32):
  (w &&& (4294967295-(2^n-1)*2^a)) ||| v*2^a=(w/2^(a+n))*2^(a+n)+v*2^a+w%2^a:=by
 have hmul:(2^n-1)*2^a<2^32:=by
  have h1:(2^n-1)*2^a<2^n*2^a:=Nat.mul_lt_mul_of_pos_right (by have:=Nat.two_pow_pos n;omega) (Nat.two_pow_pos a)
  rw[←Nat.pow_add] at h1
  exact Nat.lt_of_lt_of_le h1 (Nat.pow_le_pow_right (by decide) (by omega))
 have hlow:v*2^a+w%2^a<2^(a+n):=by
  have h1:(v+1)*2^a≤2^n*2^a:=Nat.mul_le_mul_right _ hv
  rw[Nat.add_mul,Nat.one_mul] at h1
  have h2:=Nat.mod_lt w (Nat.two_pow_pos a)
  rw[Nat.pow_add,Nat.mul_comm (2^a)]
  omega
 apply Nat.eq_of_testBit_eq
 intro j
 have e1:(4294967295-(2^n-1)*2^a)=2^32-((2^n-1)*2^a+1):=by omega
 rw[Nat.testBit_or,Nat.testBit_and,e1,Nat.testBit_two_pow_sub_succ hmul]
 rw[Nat.add_assoc,Nat.mul_comm (w/2^(a+n)),Nat.testBit_two_pow_mul_add _ hlow,Nat.mul_comm v,Nat.testBit_two_pow_mul_add _ (Nat.mod_lt w (Nat.two_pow_pos a))]
 rw[Nat.mul_comm (2^n-1),Nat.testBit_two_pow_mul,Nat.testBit_two_pow_mul,Nat.testBit_two_pow_sub_one,Nat.testBit_mod_two_pow,Nat.testBit_div_two_pow]
 by_cases hj:j<a
 ·have h1:¬a≤j:=by omega
  have h2:j<a+n:=by omega
  have h3:j<32:=by omega
  simp[hj,h1,h2,h3]
 ·by_cases hj2:j<a+n
  ·have h1:a≤j:=by omega
   have h2:j-a<n:=by omega
   simp[hj,hj2,h1,h2]
  ·have h1:a≤j:=by omega
   have h2:¬j-a<n:=by omega
   have h3:v.testBit (j-a)=false:=by
    apply Nat.testBit_lt_two_pow
    exact Nat.lt_of_lt_of_le hv (Nat.pow_le_pow_right (by decide) (by omega))
   have h4:a+n+(j-(a+n))=j:=by omega
   have h6:j-(a+n)+(a+n)=j:=by omega
   by_cases h5:j<32
   ·simp[hj,hj2,h1,h2,h3,h4,h5,h6]
   ·have hwj:w.testBit j=false:=by
     apply Nat.testBit_lt_two_pow
     exact Nat.lt_of_lt_of_le hw (Nat.pow_le_pow_right (by decide) (by omega))
    simp[hj,hj2,h1,h2,h3,h4,h5,h6,hwj]
theorem Nj{w a n v:Int}(h0:0≤w)(h1:w≤4294967295)(hv0:0≤v)(hp:dn a n=true)(hf:rO v n=true):
  bits .or .u32 (bits .andNot .u32 w (IntKind.u32.wrap ((pw n-1)*2^a.toNat))) (IntKind.u32.wrap (v*2^a.toNat))=BI w a n v:=by
 obtain⟨ha,hn1,hn2,hd⟩:=jb hp
 have hv:v<pw n:=of_decide_eq_true hf
 obtain⟨A,rfl⟩:=Int.eq_ofNat_of_zero_le ha
 obtain⟨N,rfl⟩:=Int.eq_ofNat_of_zero_le (by omega:0≤n)
 obtain⟨W,rfl⟩:=Int.eq_ofNat_of_zero_le h0
 obtain⟨V,rfl⟩:=Int.eq_ofNat_of_zero_le hv0
 have eN:pw (N:Int)=((2^N:Nat):Int):=by unfold pw;simp
 have eA:pw (A:Int)=((2^A:Nat):Int):=by unfold pw;simp
 have eA2:(2:Int)^(A:Int).toNat=((2^A:Nat):Int):=by simp
 have hV:V<2^N:=by rw[eN] at hv;exact_mod_cast hv
 have hs:A+N≤32:=by omega
 have hW:W<2^32:=by omega
 have hpos:=Nat.two_pow_pos N
 have eM:(pw (N:Int)-1)*2^(A:Int).toNat=(((2^N-1)*2^A:Nat):Int):=by
  rw[eN,eA2,Int.natCast_mul,Int.natCast_sub hpos];simp
 have eV:(V:Int)*2^(A:Int).toNat=((V*2^A:Nat):Int):=by rw[eA2,Int.natCast_mul]
 have bM:(2^N-1)*2^A<2^32:=by
  have h1:(2^N-1)*2^A<2^N*2^A:=Nat.mul_lt_mul_of_pos_right (by omega) (Nat.two_pow_pos A)
  rw[←Nat.pow_add] at h1
  exact Nat.lt_of_lt_of_le h1 (Nat.pow_le_pow_right (by decide) (by omega))
 have bV:V*2^A<2^32:=by
  have h1:V*2^A<2^N*2^A:=Nat.mul_lt_mul_of_pos_right hV (Nat.two_pow_pos A)
  rw[←Nat.pow_add] at h1
  exact Nat.lt_of_lt_of_le h1 (Nat.pow_le_pow_right (by decide) (by omega))
 rw[eM,eV,IntKind.wrap_u32,IntKind.wrap_u32]
 rw[show((((2^N-1)*2^A:Nat):Int))%4294967296=(((2^N-1)*2^A:Nat):Int) from by omega]
 rw[show((V*2^A:Nat):Int)%4294967296=((V*2^A:Nat):Int) from by omega]
 rw[u32_andNot _ _ (by omega) (by omega) (by omega) (by omega)]
 have hle:W &&& (4294967295-(2^N-1)*2^A)≤W:=Nat.and_le_left
 rw[Int.toNat_natCast,Int.toNat_natCast,u32_or _ _ (by omega) (by omega) (by omega) (by omega),Int.toNat_natCast,Int.toNat_natCast,uB W A N V hV hW hs]
 unfold BI gN
 rw[if_pos hp,eN,eA]
 have hsw:=DT W A N
 have e1:((W:Int)/((2^A:Nat):Int)%((2^N:Nat):Int))=((W/2^A%2^N:Nat):Int):=by simp
 rw[e1,←Int.natCast_mul,←Int.natCast_mul]
 omega
theorem IB{v n:Int}(h0:0≤v)(h1:v≤4294967295)(hn:0≤n):(v/2^min n.toNat 32==0)=rO v n:=by
 unfold rO
 rw[Bool.eq_iff_iff,beq_iff_eq,decide_eq_true_iff]
 by_cases h:n≤32
 ·have e:min n.toNat 32=n.toNat:=by omega
  rw[e]
  show v/pw n=0↔v<pw n
  constructor
  ·intro hz
   have h2:=Int.lt_ediv_add_one_mul_self v (nZ n)
   rw[hz] at h2
   omega
  ·intro hlt;exact Int.ediv_eq_zero_of_lt h0 hlt
 ·have e:min n.toNat 32=32:=by omega
  rw[e]
  have hz:v/2^32=0:=Int.ediv_eq_zero_of_lt h0 (by omega)
  have:=Lr (n:=n) (by omega)
  constructor
  ·intro _;omega
  ·intro _;exact hz
theorem IA{v n:Int}(h0:0≤v)(hn:n≤0):(v==0)=rO v n:=by
 unfold rO
 rw[Ns hn,Bool.eq_iff_iff,beq_iff_eq,decide_eq_true_iff]
 omega
def sumTo(zs:List Int):Nat→Int
 |0=>0
 |k+1=>sumTo zs k+nth zs k
def mV(x:Int)(zs:List Int)(k:Nat):List Int:=(List.range k).map fun j=>gN x (sumTo zs j) (nth zs j)
theorem oq(x:Int)(zs:List Int)(k:Nat):(mV x zs k).length=k:=by simp[mV]
set_option maxHeartbeats 400000 in
theorem nS(n:Int)(w:World)(h1:1≤n)(h2:n≤32):
  Calls Tryz.prog 236 #[.int .i64 n] w fun e w'=>e=.returned (.bool true)∧w=w':=by
 go_enter Tryz.func236,Tryz.ntmps236
 go_wp2
 go_ret
 exact⟨rfl,rfl⟩
set_option maxHeartbeats 400000 in
theorem Dh(n:Int)(w:World)(h:¬(1≤n∧n≤32)):
  Calls Tryz.prog 236 #[.int .i64 n] w fun e w'=>e=.returned (.bool false)∧w=w':=by
 by_cases h1:1≤n
 ·have h2:¬n≤32:=fun h2=>h ⟨h1,h2⟩
  clear h
  go_enter Tryz.func236,Tryz.ntmps236
  go_wp2
  go_ret
  exact⟨rfl,rfl⟩
 ·clear h
  go_enter Tryz.func236,Tryz.ntmps236
  go_wp2
  go_ret
  exact⟨rfl,rfl⟩
set_option maxHeartbeats 400000 in
theorem nR(a n:Int)(w:World)(hp:dn a n=true):
  Calls Tryz.prog 225 #[.int .i64 a,.int .i64 n] w fun e w'=>e=.returned (.bool true)∧w=w':=by
 obtain⟨h0,h1,h2,h3⟩:=jb hp
 clear hp
 go_enter Tryz.func225,Tryz.ntmps225
 go_wp2_with (go_at_call 236;refine(nS _ _ (by omega) (by omega)).mono ?_;rintro e w' ⟨rfl,rfl⟩)
 go_ret
 exact⟨rfl,rfl⟩
set_option maxHeartbeats 400000 in
theorem vC(a n:Int)(w:World)(hp:dn a n=false):
  Calls Tryz.prog 225 #[.int .i64 a,.int .i64 n] w fun e w'=>e=.returned (.bool false)∧w=w':=by
 have h:=Gh hp
 clear hp
 by_cases hw:1≤n∧n≤32
 ·obtain⟨h1,h2⟩:=hw
  by_cases h0:0≤a
  ·have h3:¬a≤32-n:=fun h3=>h ⟨h0,h1,h2,h3⟩
   clear h
   go_enter Tryz.func225,Tryz.ntmps225
   go_wp2_with (go_at_call 236;refine(nS _ _ (by omega) (by omega)).mono ?_;rintro e w' ⟨rfl,rfl⟩)
   go_ret
   exact⟨aI (decide_eq_false (by omega)),rfl⟩
  ·clear h
   go_enter Tryz.func225,Tryz.ntmps225
   go_wp2_with (go_at_call 236;refine(nS _ _ (by omega) (by omega)).mono ?_;rintro e w' ⟨rfl,rfl⟩)
   go_ret
   exact⟨rfl,rfl⟩
 ·clear h
  have hW:Hid (¬(1≤n∧n≤32)):=hw
  clear hw
  go_enter Tryz.func225,Tryz.ntmps225
  go_wp2_with (go_at_call 236;refine(Dh _ _ hW.out).mono ?_;rintro e w' ⟨rfl,rfl⟩)
  go_ret
  exact⟨rfl,rfl⟩
set_option maxHeartbeats 400000 in
theorem tC(n:Int)(w:World)(h1:1≤n)(h2:n≤32):
  Calls Tryz.prog 226 #[.int .i64 n] w fun e w'=>e=.returned (.int .u32 (pw n-1))∧w=w':=by
 go_enter Tryz.func226,Tryz.ntmps226
 go_wp2
 go_ret
 exact⟨bY (KM h1 h2),rfl⟩
set_option maxHeartbeats 400000 in
theorem AO(v n:Int)(w:World)(h0:0≤v)(h1:v≤4294967295):
  Calls Tryz.prog 232 #[.int .u32 v,.int .i64 n] w fun e w'=>e=.returned (.bool (rO v n))∧w=w':=by
 by_cases hn:0≤n
 ·go_enter Tryz.func232,Tryz.ntmps232
  go_wp2
  go_ret
  exact⟨aI (IB h0 h1 hn),rfl⟩
 ·go_enter Tryz.func232,Tryz.ntmps232
  go_wp2
  go_ret
  exact⟨aI (IA h0 (by omega)),rfl⟩
set_option maxHeartbeats 400000 in
theorem KD(x a n:Int)(w:World)(h0:0≤x)(h1:x≤4294967295)(hp:dn a n=true):
  Calls Tryz.prog 198 #[.int .u32 x,.int .i64 a,.int .i64 n] w fun e w'=>e=.returned (.int .u32 (gN x a n))∧∃k,w'=w.drewN k:=by
 obtain⟨g0,g1,g2,g3⟩:=jb hp
 have HG:Hid (bits .and .u32 (x/2^a.toNat) (pw n-1)=gN x a n):=KA h0 h1 hp
 have HP:Hid (dn a n=true):=hp
 clear hp
 go_enter Tryz.func198,Tryz.ntmps198
 go_wp2_with (go_at_call 225;refine(nR _ _ _ HP.out).mono ?_;rintro e w' ⟨rfl,rfl⟩)
 go_quiet ((go_at_call 226;exact BL (tC _ _ g1 g2)))
 go_wp2
 go_ret
 exact⟨bY HG.out,_,rfl⟩
set_option maxHeartbeats 400000 in
theorem Mt(x a n:Int)(w:World)(hp:dn a n=false):
  Calls Tryz.prog 198 #[.int .u32 x,.int .i64 a,.int .i64 n] w fun e w'=>e=.returned (.int .u32 0)∧w=w':=by
 have HP:Hid (dn a n=false):=hp
 clear hp
 go_enter Tryz.func198,Tryz.ntmps198
 go_wp2_with (go_at_call 225;refine(vC _ _ _ HP.out).mono ?_;rintro e w' ⟨rfl,rfl⟩)
 go_ret
 exact⟨rfl,rfl⟩
theorem Lt{a b c:Int}(h:a=b):Ending.returned (.tuple #[.int .u32 a,.int .i64 c])=.returned (.tuple #[.int .u32 b,.int .i64 c]):=by rw[h]
set_option maxHeartbeats 400000 in
theorem Ni(x a n v:Int)(w:World)(hp:dn a n=false):
  Calls Tryz.prog 208 #[.int .u32 x,.int .i64 a,.int .i64 n,.int .u32 v] w fun e w'=>e=.returned (.tuple #[.int .u32 0,.int .i64 2])∧w=w':=by
 have HP:Hid (dn a n=false):=hp
 clear hp
 go_enter Tryz.func208,Tryz.ntmps208
 go_wp2_with (go_at_call 225;refine(vC _ _ _ HP.out).mono ?_;rintro e w' ⟨rfl,rfl⟩)
 go_ret2
 exact⟨rfl,rfl⟩
set_option maxHeartbeats 400000 in
theorem Lm(x a n v:Int)(w:World)(hp:dn a n=true)(hv0:0≤v)(hv1:v≤4294967295)(hf:rO v n=false):
  Calls Tryz.prog 208 #[.int .u32 x,.int .i64 a,.int .i64 n,.int .u32 v] w fun e w'=>e=.returned (.tuple #[.int .u32 0,.int .i64 15])∧w=w':=by
 have HP:Hid (dn a n=true):=hp
 clear hp
 go_enter Tryz.func208,Tryz.ntmps208
 go_wp2_with (first|(go_at_call 225;refine(nR _ _ _ HP.out).mono ?_;rintro e w' ⟨rfl,rfl⟩)|(go_at_call 232;refine(AO _ _ _ hv0 hv1).mono ?_;rintro e w' ⟨rfl,rfl⟩))
 go_ret2
 exact⟨rfl,rfl⟩
set_option maxHeartbeats 400000 in
theorem Lp(x a n v:Int)(w:World)(h0:0≤x)(h1:x≤4294967295)(hp:dn a n=true)(hv0:0≤v)(hv1:v≤4294967295)(hf:rO v n=true):
  Calls Tryz.prog 208 #[.int .u32 x,.int .i64 a,.int .i64 n,.int .u32 v] w fun e w'=>e=.returned (.tuple #[.int .u32 (BI x a n v),.int .i64 0])∧∃k,w'=w.drewN k:=by
 obtain⟨g0,g1,g2,g3⟩:=jb hp
 have HG:Hid (bits .or .u32 (bits .andNot .u32 x (IntKind.u32.wrap ((pw n-1)*2^a.toNat))) (IntKind.u32.wrap (v*2^a.toNat))=BI x a n v):=Nj h0 h1 hv0 hp hf
 have HP:Hid (dn a n=true):=hp
 clear hp
 go_enter Tryz.func208,Tryz.ntmps208
 go_wp2_with (first|(go_at_call 225;refine(nR _ _ _ HP.out).mono ?_;rintro e w' ⟨rfl,rfl⟩)|(go_at_call 232;refine(AO _ _ _ hv0 hv1).mono ?_;rintro e w' ⟨rfl,rfl⟩))
 go_quiet ((go_at_call 226;exact BL (tC _ _ g1 g2)))
 go_wp2
 go_ret2
 exact⟨Lt HG.out,_,rfl⟩
def part(x:Int)(zs:List Int)(k:Nat):List Value:=(mV x zs k++List.replicate (zs.length-k) 0).map (Value.int .u32)
def GY(x:Int)(zs:List Int)(w:World)(e:Ending)(w':World):Prop:=
 ∃a cap,e=.returned (.tuple #[.slice a zs.length cap,.int .i64 0])∧Row w' .u32 a (mV x zs zs.length)∧Below w.heap.size w w'
theorem GY.mk{x:Int}{zs:List Int}{w w':World}{v:Value}{B:Nat}{t:TypeId}
  (h:w'.ownsRow B t 1 v zs.length ((mV x zs zs.length).map (Value.int .u32))) (hb:Below w.heap.size w w'):GY x zs w (.returned (.tuple #[v,.int .i64 0])) w':=by
 have h2:w'.ownsRow B t 1 v (mV x zs zs.length).length ((mV x zs zs.length).map (Value.int .u32)):=by rw[oq];exact h
 obtain⟨a,cap,hv,hr⟩:=Row.of_owns h2
 rw[oq] at hv
 exact⟨a,cap,by rw[hv],hr,hb⟩
def qN(x a n v:Int):Int:=if dn a n=true then(if rO v n=true then BI x a n v else 0) else 0
def Jq(a n v:Int):Int:=if dn a n=true then(if rO v n=true then 0 else 15) else 2
theorem BK{x a n v:Int}(h1:dn a n=true)(h2:rO v n=true):qN x a n v=BI x a n v:=by unfold qN;rw[if_pos h1,if_pos h2]
theorem Jr{a n v:Int}(h1:dn a n=true)(h2:rO v n=true):Jq a n v=0:=by unfold Jq;rw[if_pos h1,if_pos h2]
theorem vQ{a b c d:Int}(h:a=b)(h2:c=d):Ending.returned (.tuple #[.int .u32 a,.int .i64 c])=.returned (.tuple #[.int .u32 b,.int .i64 d]):=by rw[h,h2]
theorem KC(x a n:Int)(w:World)(h0:0≤x)(h1:x≤4294967295):
  Calls Tryz.prog 198 #[.int .u32 x,.int .i64 a,.int .i64 n] w fun e w'=>e=.returned (.int .u32 (gN x a n))∧iW w w':=by
 cases hp:dn a n
 ·refine(Mt x a n w hp).mono fun e w' ⟨he,hw⟩=>⟨?_,hw▸iW.refl w⟩
  rw[he];exact bY (by unfold gN;rw[hp];rfl)
 ·exact KD x a n w h0 h1 hp
theorem Ll(x a n v:Int)(w:World)(h0:0≤x)(h1:x≤4294967295)(hv0:0≤v)(hv1:v≤4294967295):
  Calls Tryz.prog 208 #[.int .u32 x,.int .i64 a,.int .i64 n,.int .u32 v] w fun e w'=>e=.returned (.tuple #[.int .u32 (qN x a n v),.int .i64 (Jq a n v)])∧iW w w':=by
 cases hp:dn a n
 ·refine(Ni x a n v w hp).mono fun e w' ⟨he,hw⟩=>⟨?_,hw▸iW.refl w⟩
  rw[he];exact vQ (by unfold qN;rw[hp];rfl) (by unfold Jq;rw[hp];rfl)
 ·cases hf:rO v n
  ·refine(Lm x a n v w hp hv0 hv1 hf).mono fun e w' ⟨he,hw⟩=>⟨?_,hw▸iW.refl w⟩
   rw[he];exact vQ (by unfold qN;rw[hp,hf];rfl) (by unfold Jq;rw[hp,hf];rfl)
  ·refine(Lp x a n v w h0 h1 hp hv0 hv1 hf).mono fun e w' ⟨he,hw⟩=>⟨?_,hw⟩
   rw[he];exact vQ (BK hp hf).symm (Jr hp hf).symm
open Classical in
open Classical in
open Classical in
open Classical in
def iY(n b:Int):Bool:=decide (0≤n∧n<b)
theorem EC{n b:Int}(h:iY n b=true):0≤n∧n<b:=of_decide_eq_true h
theorem MH{n b:Int}(h:0≤n∧n<b):iY n b=true:=decide_eq_true h
theorem EB{n b:Int}(h:¬(0≤n∧n<b)):iY n b=false:=decide_eq_false h
def sQ(c n s d g:Int):Bool:=iY c 2&&iY n 2&&iY s 2&&iY d 2&&iY g 2
def pI(c n s d g:Int):Bool:=decide (c=0∧n=0∧s=0∧d=0∧g=0)
def dB(k c n s d g o:Int):Bool:=iY k 4&&iY o 1048576&&(k==3||o==0)&&sQ c n s d g&&(!(k==0||k==3)||pI c n s d g)
def bI(k c n s d g o:Int):Prop:=
 (0≤k∧k<4)∧(0≤o∧o<1048576)∧(k=3∨o=0)∧(0≤c∧c<2)∧(0≤n∧n<2)∧(0≤s∧s<2)∧(0≤d∧d<2)∧(0≤g∧g<2)∧((k=0∨k=3)→c=0∧n=0∧s=0∧d=0∧g=0)
theorem jc{k c n s d g o:Int}:dB k c n s d g o=true↔bI k c n s d g o:=by
 unfold dB bI sQ pI iY
 simp only[Bool.and_eq_true,Bool.or_eq_true,Bool.not_eq_true',Bool.or_eq_false_iff,decide_eq_true_eq,beq_iff_eq,beq_eq_false_iff_ne,ne_eq]
 omega
theorem vR{k c n s d g o:Int}(h:dB k c n s d g o=true):bI k c n s d g o:=jc.1 h
theorem jV{k c n s d g o:Int}(h:bI k c n s d g o):dB k c n s d g o=true:=jc.2 h
theorem Gp{k c n s d g o:Int}(h:¬bI k c n s d g o):dB k c n s d g o=false:=by
 cases h2:dB k c n s d g o with
 |false=>rfl
 |true=>exact absurd (vR h2) h
theorem uT{a b:Bool}(h:a=true↔b=true):a=b:=by cases a<;>cases b<;>simp_all
theorem yg{c n s d g:Int}:pI c n s d g=true↔c=0∧n=0∧s=0∧d=0∧g=0:=by unfold pI;simp
theorem Fv{c n s d g:Int}:sQ c n s d g=true↔(0≤c∧c<2)∧(0≤n∧n<2)∧(0≤s∧s<2)∧(0≤d∧d<2)∧(0≤g∧g<2):=by
 unfold sQ iY;simp[and_assoc]
theorem Ou{k c n s d g o:Int}(h:iY k 4=false):dB k c n s d g o=false:=by unfold dB;rw[h];rfl
theorem Ov{k c n s d g o:Int}(h:iY o 1048576=false):dB k c n s d g o=false:=by unfold dB;rw[h];simp
theorem Nt{k c n s d g o:Int}(h:¬k=3)(h2:¬o=0):dB k c n s d g o=false:=by
 refine Gp fun hr=> ?_
 obtain⟨_,_,h3,_⟩:=hr
 omega
theorem Ot{c n s d g o:Int}(h:iY o 1048576=true):dB 3 c n s d g o=pI c n s d g:=by
 have:=EC h
 refine uT ?_
 rw[jc,yg];unfold bI
 omega
theorem Oq{c n s d g:Int}:dB 0 c n s d g 0=pI c n s d g:=by
 refine uT ?_
 rw[jc,yg];unfold bI
 omega
theorem Ow{k c n s d g:Int}(h:iY k 4=true)(h0:¬k=0)(h3:¬k=3):dB k c n s d g 0=sQ c n s d g:=by
 have:=EC h
 refine uT ?_
 rw[jc,Fv];unfold bI
 omega
def bZ(k c n s d g o:Int):Int:=k+4*c+8*n+16*s+32*d+64*g+256*o
theorem Js{x a n v:Int}(h0:0≤x)(hx:x<pw a)(hp:dn a n=true):BI x a n v=x+v*pw a:=by
 unfold BI gN
 rw[if_pos hp,Int.ediv_eq_zero_of_lt h0 hx]
 simp
theorem kG{x a n v:Int}(h0:0≤x)(hx:x<pw a)(hp:dn a n=true)(hf:v<pw n):qN x a n v=x+v*pw a:=by
 rw[BK hp (decide_eq_true hf),Js h0 hx hp]
theorem wX:pw 1=2:=by decide
theorem Jt:pw 2=4:=by decide
theorem Nk:pw 3=8:=by decide
theorem Nl:pw 4=16:=by decide
theorem Nn:pw 5=32:=by decide
theorem Np:pw 6=64:=by decide
theorem Nq:pw 8=256:=by decide
theorem Mf:pw 24=16777216:=by decide
def MW(k:Int):Int:=qN 0 0 2 k
def MX(k c:Int):Int:=qN (MW k) 2 1 c
def MZ(k c n:Int):Int:=qN (MX k c) 3 1 n
def Na(k c n s:Int):Int:=qN (MZ k c n) 4 1 s
def Nb(k c n s d:Int):Int:=qN (Na k c n s) 5 1 d
def Nc(k c n s d g:Int):Int:=qN (Nb k c n s d) 6 1 g
def OL(k c n s d g o:Int):Int:=qN (Nc k c n s d g) 8 24 o
theorem Nf{k c n s d g o:Int}(h:bI k c n s d g o):
  OL k c n s d g o=bZ k c n s d g o∧(0≤MW k∧MW k≤4294967295)∧(0≤MX k c∧MX k c≤4294967295)∧(0≤MZ k c n∧MZ k c n≤4294967295)∧(0≤Na k c n s∧Na k c n s≤4294967295)∧(0≤Nb k c n s d∧Nb k c n s d≤4294967295)∧(0≤Nc k c n s d g∧Nc k c n s d g≤4294967295):=by
 obtain⟨h1,h2,h3,h4,h5,h6,h7,h8,h9⟩:=h
 have e0:MW k=k:=by
  unfold MW;rw[kG (by omega) (by decide) (by decide) (by rw[Jt];omega),Ol];omega
 have e1:MX k c=k+4*c:=by
  unfold MX;rw[e0,kG (by omega) (by rw[Jt];omega) (by decide) (by rw[wX];omega),Jt];omega
 have e2:MZ k c n=k+4*c+8*n:=by
  unfold MZ;rw[e1,kG (by omega) (by rw[Nk];omega) (by decide) (by rw[wX];omega),Nk];omega
 have e3:Na k c n s=k+4*c+8*n+16*s:=by
  unfold Na;rw[e2,kG (by omega) (by rw[Nl];omega) (by decide) (by rw[wX];omega),Nl];omega
 have e4:Nb k c n s d=k+4*c+8*n+16*s+32*d:=by
  unfold Nb;rw[e3,kG (by omega) (by rw[Nn];omega) (by decide) (by rw[wX];omega),Nn];omega
 have e5:Nc k c n s d g=k+4*c+8*n+16*s+32*d+64*g:=by
  unfold Nc;rw[e4,kG (by omega) (by rw[Np];omega) (by decide) (by rw[wX];omega),Np];omega
 have e6:OL k c n s d g o=k+4*c+8*n+16*s+32*d+64*g+256*o:=by
  unfold OL;rw[e5,kG (by omega) (by rw[Nq];omega) (by decide) (by rw[Mf];omega),Nq];omega
 unfold bZ
 omega
def uK(x:Int):Int:=x%4
def uC(x:Int):Int:=x/4%2
def uN(x:Int):Int:=x/8%2
def uS(x:Int):Int:=x/16%2
def uD(x:Int):Int:=x/32%2
def uG(x:Int):Int:=x/64%2
def uO(x:Int):Int:=x/256
theorem MB(x:Int):gN x 0 2=uK x:=by
 unfold gN uK;rw[if_pos (by decide),Ol,Jt,Int.ediv_one]
theorem Mv(x:Int):gN x 2 1=uC x:=by unfold gN uC;rw[if_pos (by decide),wX,Jt]
theorem MC(x:Int):gN x 3 1=uN x:=by unfold gN uN;rw[if_pos (by decide),wX,Nk]
theorem MF(x:Int):gN x 4 1=uS x:=by unfold gN uS;rw[if_pos (by decide),wX,Nl]
theorem Mw(x:Int):gN x 5 1=uD x:=by unfold gN uD;rw[if_pos (by decide),wX,Nn]
theorem Mx(x:Int):gN x 6 1=uG x:=by unfold gN uG;rw[if_pos (by decide),wX,Np]
theorem ME{x:Int}(h0:0≤x)(h1:x≤4294967295):gN x 8 24=uO x:=by
 unfold gN uO;rw[if_pos (by decide),Nq,Mf];omega
theorem unpack_pack{k c n s d g o:Int}(h:bI k c n s d g o):
  uK (bZ k c n s d g o)=k∧uC (bZ k c n s d g o)=c∧uN (bZ k c n s d g o)=n∧uS (bZ k c n s d g o)=s∧uD (bZ k c n s d g o)=d∧uG (bZ k c n s d g o)=g∧uO (bZ k c n s d g o)=o:=by
 obtain⟨h1,h2,h3,h4,h5,h6,h7,h8,h9⟩:=h
 unfold bZ uK uC uN uS uD uG uO
 omega
theorem BB(x:Int):bZ (uK x) (uC x) (uN x) (uS x) (uD x) (uG x) (uO x)=x-128*(x/128%2):=by
 unfold bZ uK uC uN uS uD uG uO
 omega
def zV(W:Int):Bool:=decide (16≤W∧W≤256)
theorem ry{W:Int}(h:zV W=true):16≤W∧W≤256:=of_decide_eq_true h
theorem uI{W:Int}(h0:16≤W)(h1:W≤256):zV W=true:=decide_eq_true ⟨h0,h1⟩
theorem CK{W:Int}(h:¬(16≤W∧W≤256)):zV W=false:=decide_eq_false h
def di(W n:Int):Int:=if n≤W-8 then 0 else CR n (W-1)
def sG(l:Int):Int:=if l= -1 then 8 else 1
def rD(W l:Int):Int:=kN [l,W-1]
def dZ(W n:Int):Int:=if zV W=true then(if n<0∨aV W<n then 3 else 0) else 1
def dJ(W p d:Int):Int:=if zV W=true then(if p<0∨d<0∨aV W<p+d then 3 else 0) else 1
def bP(W p d:Int):Int:=if dJ W p d=0 then 1+di W (p+d) else 0
def dY(W n i:Int):Int:=if dZ W n=0 then(if i<0∨n≤i then 7 else 0) else dZ W n
def kD(W n i:Int):Int:=if dY W n i=0 then(if n≤W-8 then -1 else i/(W-1)) else 0
def jB(W n i:Int):Int:=if dY W n i=0 then(if n≤W-8 then 8+i else 1+i%(W-1)) else 0
theorem yH{W n:Int}(h:dZ W n=0):16≤W∧W≤256∧0≤n∧n≤aV W:=by
 unfold dZ at h
 split at h
 ·rename_i hw
  have:=ry hw
  split at h
  ·cases h
  ·omega
 ·cases h
theorem GL{W n:Int}(h0:16≤W)(h1:W≤256)(h2:0≤n)(h3:n≤aV W):dZ W n=0:=by
 unfold dZ;rw[if_pos (uI h0 h1),if_neg (by omega)]
theorem qR{W p d:Int}(h:dJ W p d=0):16≤W∧W≤256∧0≤p∧0≤d∧p+d≤aV W:=by
 unfold dJ at h
 split at h
 ·rename_i hw
  have:=ry hw
  split at h
  ·cases h
  ·omega
 ·cases h
theorem yz{W n i:Int}(h:dY W n i=0):dZ W n=0∧0≤i∧i<n:=by
 unfold dY at h
 split at h
 ·split at h
  ·cases h
  ·exact⟨by assumption,by omega,by omega⟩
 ·exact absurd h (by assumption)
theorem yx{W n i:Int}(h:dZ W n=0)(h0:0≤i)(h1:i<n):dY W n i=0:=by
 unfold dY;rw[if_pos h,if_neg (by omega)]
theorem mF{W n:Int}(h0:16≤W)(h1:W≤256)(h2:W-8<n)(h3:n≤aV W):
  1≤di W n∧di W n≤W-8∧n≤di W n*(W-1)∧di W n*(W-1)<n+W-1:=by
 have e:di W n=CR n (W-1):=by unfold di;rw[if_neg (by omega)]
 have u:=Eg (a:=n) (b:=W-1) (by omega) (by omega)
 rw[e]
 rw[Int.mul_comm (W-1)] at u
 refine⟨?_,?_,u.2.2.1,by omega⟩
 ·by_cases h:1≤CR n (W-1)
  ·exact h
  ·have:CR n (W-1)=0:=by omega
   rw[this,Int.zero_mul] at u
   omega
 ·by_cases h:CR n (W-1)≤W-8
  ·exact h
  ·have h4:(W-8+1)*(W-1)≤CR n (W-1)*(W-1):=Int.mul_le_mul_of_nonneg_right (by omega) (by omega)
   rw[Int.add_mul] at h4
   have:(W-8)*(W-1)=aV W:=rfl
   omega
theorem jJ{W n:Int}(h:n≤W-8):di W n=0:=by unfold di;rw[if_pos h]
theorem lL{W n:Int}(h0:16≤W)(h1:W≤256)(h3:n≤aV W):0≤di W n∧di W n≤W-8:=by
 by_cases h:n≤W-8
 ·rw[jJ h];omega
 ·have:=mF h0 h1 (by omega) h3;omega
theorem KI{m a b:Int}(hm:1≤m)(h:a<b):a*m+m≤b*m:=by
 have:(a+1)*m≤b*m:=Int.mul_le_mul_of_nonneg_right (by omega) (by omega)
 rw[Int.add_mul] at this
 omega
theorem Fs{W l:Int}(h0:16≤W)(h1:W≤256)(h:l≤0):rD W l=0:=by
 unfold rD
 rw[Bq,Mq h,ib (by omega) (by omega),lV (by omega) (by omega) (by omega) (by omega),Int.zero_mul]
 rfl
theorem Hu{W l:Int}(h0:16≤W)(h1:W≤256)(h:0≤l)(h2:l≤256):rD W l=l*(W-1):=by
 unfold rD
 have:=yf h (show 0≤W-1 by omega) h2 (show W-1≤255 by omega)
 exact kR (by omega) (by omega) (by omega) (by omega) (by omega)
theorem Lf{m i:Int}(hm:1≤m)(hi:0≤i):i=(i/m)*m+i%m∧0≤i%m∧i%m<m∧0≤i/m:=
 ⟨by have:=Int.emod_add_mul_ediv i m;rw[Int.mul_comm] at this;omega,Int.emod_nonneg _ (by omega),Int.emod_lt_of_pos _ (by omega),Int.ediv_nonneg hi (by omega)⟩
theorem tO{W n i:Int}(h:dY W n i=0)(hn:n≤W-8):kD W n i= -1∧jB W n i=8+i:=by
 unfold kD jB;rw[if_pos h,if_pos hn,if_pos h,if_pos hn];exact⟨rfl,rfl⟩
theorem yA{W n i:Int}(h:dY W n i=0)(hn:W-8<n):kD W n i=i/(W-1)∧jB W n i=1+i%(W-1):=by
 unfold kD jB;rw[if_pos h,if_neg (by omega),if_pos h,if_neg (by omega)];exact⟨rfl,rfl⟩
theorem tQ{W n i:Int}(h:dY W n i≠0):kD W n i=0∧jB W n i=0:=by
 unfold kD jB;rw[if_neg h,if_neg h];exact⟨rfl,rfl⟩
end Go.Proofs.YtbhhfnlkpieebaaGreat.Pk
