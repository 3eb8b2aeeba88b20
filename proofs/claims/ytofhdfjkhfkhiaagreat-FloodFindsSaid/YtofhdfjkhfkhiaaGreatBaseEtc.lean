/-
  Texts laid together: Base, NumMath, PackFn, TagMath, ShapeMath.
-/
import Derived.WalkKit
import Derived.WalkSpells
import Derived.WalkLawsBesides
import Derived.Deep.QuietTactic
import Derived.BigQuiet
import Derived.Lib.Hide
import Derived.Laws.NewBlocks
import Derived.OneCell
import Derived.Laws.MakeOwn
import Derived.Laws.OwnMore
import Derived.Test.YtofhdfjkhfkhiaaGreatProg
import Derived.IntWalk
namespace Go.Proofs.YtofhdfjkhfkhiaaGreat.Pk
open Go.RowKit
set_option linter.unusedVariables false
set_option linter.unusedSimpArgs false
def nth(zs:List Int)(i:Nat):Int:=zs.getD i 0
def Row(w:World)(k:IntKind)(a:Option Addr)(zs:List Int):Prop:=
 ∀i,i<zs.length→∃b off,a=some ⟨b,off,none⟩∧b<w.heap.size∧w.cell? ⟨b,off+i,none⟩=some (.int k (nth zs i))
theorem Row.nil(w:World)(k:IntKind)(a:Option Addr):Row w k a []:=fun _ h=>absurd h (Nat.not_lt_zero _)
theorem Row.below{w w':World}{k:IntKind}{a:Option Addr}{zs:List Int}{B:Nat}(h:Row w k a zs)(hb:Below B w w')(hB:w.heap.size≤B):Row w' k a zs:=by
 intro i hi
 obtain⟨b,off,ha,hlt,hc⟩:=h i hi
 exact⟨b,off,ha,Nat.lt_of_lt_of_le hlt hb.size,by rw[hb.cell (p:=⟨b,off+i,none⟩) (Nat.lt_of_lt_of_le hlt hB)];exact hc⟩
theorem Row.drewN{w:World}{k:IntKind}{a:Option Addr}{zs:List Int}(h:Row w k a zs)(n:Nat):Row (w.drewN n) k a zs:=by
 intro i hi
 obtain⟨b,off,ha,hlt,hc⟩:=h i hi
 exact⟨b,off,ha,hlt,hc⟩
theorem Row.alloc{w:World}{k:IntKind}{a:Option Addr}{zs:List Int}(h:Row w k a zs)(o:Obj):Row (w.alloc o) k a zs:=
 h.below ((Below.refl w.heap.size w).alloc (Nat.le_refl _) o) (Nat.le_refl _)
theorem Row.later{w w':World}{k:IntKind}{a:Option Addr}{zs:List Int}(h:Row w k a zs)(hb:Below w.heap.size w w'):Row w' k a zs:=h.below hb (Nat.le_refl _)
theorem below_step{w w1 w2:World}(h:Below w.heap.size w w1)(h2:Below w1.heap.size w1 w2):Below w.heap.size w w2:=h.trans (h2.mono h.size)
theorem below_new(w:World)(o:Obj):Below w.heap.size w (w.alloc o):=(Below.refl _ _).alloc (Nat.le_refl _) o
theorem jq{w w1:World}(h:Below w.heap.size w w1){p:Addr}(hp:w.heap.size≤p.block)(u:Value):Below w.heap.size w (w1.setCell p u):=h.setCell hp u
theorem cell_block{w:World}{a:Addr}{v:Value}(h:w.cell? a=some v):a.block<w.heap.size:=by
 by_cases hlt:a.block<w.heap.size
 ·exact hlt
 ·unfold World.cell? at h
  rw[Array.getElem?_eq_none (by omega)] at h
  cases h
theorem cell_none{w:World}{a:Addr}{v:Value}(h:w.cell? a=some v):a.spot=none:=by
 unfold World.cell? at h
 split at h
 ·split at h
  ·cases h
  ·rename_i hs
   cases hsp:a.spot with
   |none=>rfl
   |some k=>rw[hsp] at hs;exact absurd rfl hs
 ·cases h
theorem vH{W:World}{k:IntKind}{x:Addr}{len cap:Nat}{zs:List Int}(hl:len≤cap)(hm:cap≤maxLen)(hz:zs.length=cap)
  (hcell:∀i,i<zs.length→W.cell? (x.add i)=some (.int k (zs.getD i 0))) (hwz:∀n∈zs,(Lit.int k n).wf=true):
  ∃es:List Int,len=es.length∧Row W k (some x) es∧(∀n∈es,(Lit.int k n).wf=true)∧len≤maxLen:=by
 refine⟨zs.take len,by simp;omega,?_,fun n hn=>hwz n (List.mem_of_mem_take hn),Nat.le_trans hl hm⟩
 intro i hi
 have hi1:i<len:=by simp at hi;omega
 obtain⟨b,off,spot⟩:=x
 have hs:=cell_none (hcell 0 (by omega))
 simp[Addr.add] at hs
 subst hs
 have hadd:(⟨b,off,none⟩:Addr).add i=⟨b,off+i,none⟩:=by
  unfold Addr.add
  by_cases h0:i=0
  ·subst h0;rfl
  ·simp[h0]
 have hc:=hcell i (by omega)
 rw[hadd] at hc
 refine⟨b,off,rfl,cell_block hc,?_⟩
 rw[hc]
 unfold nth
 simp[List.getD,hi1]
def Drw(w w':World):Prop:=∃m,w'=w.drewN m
theorem Drw.refl(w:World):Drw w w:=⟨0,rfl⟩
theorem Drw.step{w w':World}(h:Drw w w')(n:Nat):Drw w (w'.drewN n):=by
 obtain⟨m,rfl⟩:=h;exact⟨m+n,World.drewN_drewN _ _ _⟩
theorem Drw.size{w w':World}(h:Drw w w'):w'.heap.size=w.heap.size:=by obtain⟨m,rfl⟩:=h;rfl
theorem Drw.below{w w':World}(h:Drw w w')(B:Nat):Below B w w':=by obtain⟨m,rfl⟩:=h;exact⟨rfl,rfl,rfl,Nat.le_refl _,fun _ _=>rfl⟩
theorem Drw.new{w w':World}(h:Drw w w'):Below w.heap.size w w':=h.below _
theorem Row.drw{w w':World}{k:IntKind}{a:Option Addr}{zs:List Int}(h:Row w k a zs)(d:Drw w w'):Row w' k a zs:=by
 obtain⟨m,rfl⟩:=d;exact h.drewN m
theorem aI{a b:Bool}(h:a=b):Ending.returned (.bool a)=.returned (.bool b):=by rw[h]
theorem bP{k:IntKind}{a b:Int}(h:a=b):Ending.returned (.int k a)=.returned (.int k b):=by rw[h]
theorem BH{P:Program}{f:FuncId}{args:Array Value}{w:World}{n:Nat}{v:Value}
  (h:Calls P f args (w.drewN n) fun e w'=>e=.returned v∧w.drewN n=w'):Calls P f args (w.drewN n) fun e w''=>e=.returned v∧∃m,w''=w.drewN m:=
 h.mono fun _ _ ⟨he,hm⟩=>⟨he,n,hm.symm⟩
theorem Row.of_owns{w:World}{B:Nat}{e:TypeId}{k:IntKind}{v:Value}{zs:List Int}(h:w.ownsRow B e 1 v zs.length (zs.map (Value.int k))):
  ∃a cap,v=.slice a zs.length cap∧Row w k a zs:=by
 rcases h.2 with⟨h1,h2⟩|⟨g,cap,cur,h1,_,hg,_⟩
 ·refine⟨none,0,by rw[h1,h2],fun i hi=> ?_⟩
  omega
 ·refine⟨some ⟨g,0,none⟩,cap,h1,fun i hi=>⟨g,0,rfl,?_,?_⟩⟩
  ·by_cases hlt:g<w.heap.size
   ·exact hlt
   ·rw[Array.getElem?_eq_none (by omega)] at hg
    cases hg
  ·subst h1
   have hc:=h.cellAt i (by omega)
   rw[Nat.zero_add,hc,List.getElem?_map]
   show Option.map (Value.int k) zs[i]? =some (Value.int k (zs.getD i 0))
   simp[List.getD,hi]
theorem owns_block{w:World}{B:Nat}{e:TypeId}{size:Nat}{v:Value}{n:Nat}{xs:List Value}(h:w.ownsRow B e size v n xs):∀k,v.ownBlock=some k→B≤k:=by
 intro k hk
 rcases h.2 with⟨h1,_⟩|⟨g,cap,cur,h1,hb,_⟩
 ·subst h1;cases hk
 ·subst h1
  simp[Value.ownBlock] at hk
  omega
theorem Row.lit(w:World)(k:IntKind)(zs:List Int)(t:TypeId):Row (w.alloc (.cells (zs.map (Value.int k)).toArray t)) k (some ⟨w.heap.size,0,none⟩) zs:=by
 intro i hi
 refine⟨w.heap.size,0,rfl,by simp,?_⟩
 rw[Nat.zero_add,World.cell?_alloc_at _ _ _ _ rfl]
 show(zs.map (Value.int k)).toArray[i]? =some (Value.int k (zs.getD i 0))
 simp[List.getD,hi]
theorem EC{B:Nat}{W w1:World}(hb:Below B W w1):(∀b o,b<B→w1.cell? ⟨b,o,none⟩=W.cell? ⟨b,o,none⟩)∧(∀b o,b<B→w1.frozen? ⟨b,o,none⟩=W.frozen? ⟨b,o,none⟩):=
 ⟨fun b o h=>hb.cell (p:=⟨b,o,none⟩) h,fun b o h=>hb.frozen (p:=⟨b,o,none⟩) h⟩
structure Touch (X:Nat→Prop) (w w':World):Prop where
 os:w'.os=w.os
 tape:w'.tape=w.tape
 output:w'.output=w.output
 size:w.heap.size≤w'.heap.size
 block:∀k,k<w.heap.size→¬X k→w'.heap[k]? =w.heap[k]?
theorem Touch.refl(X:Nat→Prop)(w:World):Touch X w w:=⟨rfl,rfl,rfl,Nat.le_refl _,fun _ _ _=>rfl⟩
theorem Touch.trans{X:Nat→Prop}{a b c:World}(h:Touch X a b)(k:Touch X b c):Touch X a c:=
 ⟨k.os.trans h.os,k.tape.trans h.tape,k.output.trans h.output,Nat.le_trans h.size k.size,fun i hi hx=>(k.block i (Nat.lt_of_lt_of_le hi h.size) hx).trans (h.block i hi hx)⟩
theorem Touch.mono{X Y:Nat→Prop}{w w':World}(h:Touch X w w')(hXY:∀k,k<w.heap.size→X k→Y k):Touch Y w w':=
 ⟨h.os,h.tape,h.output,h.size,fun k hk hy=>h.block k hk fun hx=>hy (hXY k hk hx)⟩
theorem Touch.of_below{X:Nat→Prop}{w w':World}(h:Below w.heap.size w w'):Touch X w w':=⟨h.os,h.tape,h.output,h.size,fun k hk _=>h.block k hk⟩
theorem Touch.below{X:Nat→Prop}{w w':World}{B:Nat}(h:Touch X w w')(hX:∀k,X k→B≤k)(hB:B≤w.heap.size):Below B w w':=
 ⟨h.os,h.tape,h.output,h.size,fun k hk=>h.block k (by omega) fun hx=>by have:=hX k hx;omega⟩
theorem Touch.alloc{X:Nat→Prop}{a w:World}(h:Touch X a w)(o:Obj):Touch X a (w.alloc o):=
 ⟨h.os,h.tape,h.output,by have:=h.size;simp;omega,fun k hk hx=>(Below.heap_alloc _ _ _ (Nat.lt_of_lt_of_le hk h.size)).trans (h.block k hk hx)⟩
theorem Touch.setCell{X:Nat→Prop}{a w:World}(h:Touch X a w){p:Addr}(hp:p.block<a.heap.size→X p.block)(u:Value):Touch X a (w.setCell p u):=
 ⟨h.os,h.tape,h.output,by have:=h.size;simpa[World.setCell] using this,fun k hk hx=>(Below.heap_setCell _ _ _ _ (fun e=>by subst e;exact hx (hp hk))).trans (h.block k hk hx)⟩
theorem Touch.drewN{X:Nat→Prop}{a w:World}(h:Touch X a w)(n:Nat):Touch X a (w.drewN n):=⟨h.os,h.tape,h.output,h.size,h.block⟩
theorem Touch.drew{X:Nat→Prop}{a w:World}(h:Touch X a w):Touch X a w.drew:=⟨h.os,h.tape,h.output,h.size,h.block⟩
theorem Touch.cell{X:Nat→Prop}{w w':World}(h:Touch X w w'){p:Addr}(hp:p.block<w.heap.size)(hx:¬X p.block):w'.cell? p=w.cell? p:=World.cell?_of_block (w:=w) (h.block p.block hp hx)
theorem Touch.undrew{X:Nat→Prop}{w w':World}(h:Touch X w.drew w'):Touch X w w':=⟨h.os,h.tape,h.output,h.size,h.block⟩
theorem Touch.Fy{X:Nat→Prop}{w w':World}{n:Nat}(h:Touch X (w.drewN n) w'):Touch X w w':=⟨h.os,h.tape,h.output,h.size,h.block⟩
def Blk(w:World)(b:Nat)(cs:Array Value)(t:TypeId):Prop:=w.heap[b]? =some (.cells cs t (0,0))
theorem Blk.lt{w:World}{b:Nat}{cs:Array Value}{t:TypeId}(h:Blk w b cs t):b<w.heap.size:=lt_of_block h
theorem Blk.cell{w:World}{b:Nat}{cs:Array Value}{t:TypeId}(h:Blk w b cs t)(i:Nat){v:Value}(hv:cs[i]? =some v):w.cell? ⟨b,i,none⟩=some v:=by
 unfold Blk at h
 simp[World.cell?,h,hv]
theorem Blk.free{w:World}{b:Nat}{cs:Array Value}{t:TypeId}(h:Blk w b cs t)(i:Nat):w.frozen? ⟨b,i,none⟩=false:=by
 unfold Blk at h
 simp[World.frozen?,h]
theorem Blk.new(w:World)(cs:Array Value)(t:TypeId):Blk (w.alloc (.cells cs t)) w.heap.size cs t:=by
 show(w.heap.push _)[w.heap.size]? =_
 simp
theorem Blk.alloc{w:World}{b:Nat}{cs:Array Value}{t:TypeId}(h:Blk w b cs t)(o:Obj):Blk (w.alloc o) b cs t:=(Below.heap_alloc _ _ _ h.lt).trans h
theorem Blk.drewN{w:World}{b:Nat}{cs:Array Value}{t:TypeId}(h:Blk w b cs t)(n:Nat):Blk (w.drewN n) b cs t:=h
theorem Blk.drew{w:World}{b:Nat}{cs:Array Value}{t:TypeId}(h:Blk w b cs t):Blk w.drew b cs t:=h
theorem Blk.other{w:World}{b:Nat}{cs:Array Value}{t:TypeId}(h:Blk w b cs t){p:Addr}(hp:p.block≠b)(v:Value):Blk (w.setCell p v) b cs t:=(Below.heap_setCell _ _ _ _ (Ne.symm hp)).trans h
theorem Blk.set{w:World}{b:Nat}{cs:Array Value}{t:TypeId}(h:Blk w b cs t)(i:Nat)(v:Value):Blk (w.setCell ⟨b,i,none⟩ v) b (cs.setIfInBounds i v) t:=by
 have hlt:=h.lt
 unfold Blk at h
 have h':w.heap[b]=.cells cs t (0,0):=by simpa[Array.getElem?_eq_getElem hlt] using h
 show(w.heap.modify b _)[b]? =_
 rw[Array.getElem?_eq_getElem (by simpa using hlt),Array.getElem_modify_self,h']
 rfl
theorem Blk.put{w:World}{b:Nat}{cs cs':Array Value}{t:TypeId}(h:Blk w b cs t)(i:Nat)(v:Value)(e:cs.setIfInBounds i v=cs'):Blk (w.setCell ⟨b,i,none⟩ v) b cs' t:=e▸h.set i v
theorem Blk.touch{X:Nat→Prop}{w w':World}{b:Nat}{cs:Array Value}{t:TypeId}(h:Blk w b cs t)(k:Touch X w w')(hx:¬X b):Blk w' b cs t:=(k.block b h.lt hx).trans h
theorem Blk.below{w w':World}{b B:Nat}{cs:Array Value}{t:TypeId}(h:Blk w b cs t)(k:Below B w w')(hb:b<B):Blk w' b cs t:=(k.block b hb).trans h
theorem Blk.later{w w':World}{b:Nat}{cs:Array Value}{t:TypeId}(h:Blk w b cs t)(k:Below w.heap.size w w'):Blk w' b cs t:=(k.block b h.lt).trans h
def fw(X:Nat→Prop)(a:Option Addr)(zs:List Int):Prop:=0<zs.length→∀b off,a=some ⟨b,off,none⟩→¬X b
theorem Row.touch{X:Nat→Prop}{w w':World}{k:IntKind}{a:Option Addr}{zs:List Int}(h:Row w k a zs)(t:Touch X w w')(hx:fw X a zs):Row w' k a zs:=by
 intro i hi
 obtain⟨b,off,ha,hlt,hc⟩:=h i hi
 exact⟨b,off,ha,Nat.lt_of_lt_of_le hlt t.size,(t.cell (p:=⟨b,off+i,none⟩) hlt (hx (by omega) b off ha)).trans hc⟩
theorem fw.mono{X Y:Nat→Prop}{a:Option Addr}{zs:List Int}(h:fw X a zs)(hXY:∀k,Y k→X k):fw Y a zs:=fun h0 b off ha hy=>h h0 b off ha (hXY b hy)
theorem Row.out{w:World}{k:IntKind}{a:Option Addr}{zs:List Int}(h:Row w k a zs){X:Nat→Prop}(hX:∀k,X k→w.heap.size≤k):fw X a zs:=by
 intro h0 b off ha hx
 obtain⟨b',off',ha',hlt,_⟩:=h 0 h0
 rw[ha] at ha'
 cases ha'
 have:=hX b hx
 omega
def arrV(f:Nat→Value)(n:Nat):Array Value:=((List.range n).map f).toArray
theorem Ag{f:Nat→Value}{n i:Nat}(h:i<n):(arrV f n)[i]? =some (f i):=by simp[arrV,h]
theorem arrV_set(f:Nat→Value)(n i:Nat)(v:Value):(arrV f n).setIfInBounds i v=arrV (fun j=>if j=i then v else f j) n:=by
 unfold arrV
 apply Array.toList_inj.1
 rw[Array.toList_setIfInBounds]
 apply List.ext_getElem
 ·simp
 ·intro j h1 h2
  have hj:j<n:=by simpa using h2
  simp[List.getElem_set]
  by_cases e:i=j
  ·subst e;simp
  ·have:¬j=i:=fun h=>e h.symm
   simp[e,this]
theorem arrV_congr{f g:Nat→Value}{n:Nat}(h:∀i,i<n→f i=g i):arrV f n=arrV g n:=by
 unfold arrV
 congr 1
 exact List.map_congr_left (fun i hi=>h i (List.mem_range.1 hi))
theorem made_arr(z:Value)(hz:z.cells= #[z])(n:Nat):madeCells z.cells (n*1)=arrV (fun _=>z) n:=by
 unfold madeCells arrV
 have e:∀x:Nat,z.cells[x%z.cells.size]! =z:=by
  intro x
  rw[hz]
  simp[Nat.mod_one]
 simp only[e]
 apply Array.ext<;>simp
theorem Blk.arr{w:World}{q:Nat}{f:Nat→Value}{n:Nat}{t:TypeId}(h:Blk w q (arrV f n) t){i:Nat}(hi:i<n):w.cell? ⟨q,i,none⟩=some (f i):=h.cell i (Ag hi)
def dE(w:World)(k:IntKind)(a:Option Addr)(zs:List Int):Prop:=
 zs.length=0∨∃b cs t,a=some ⟨b,0,none⟩∧Blk w b cs t∧∀i,i<zs.length→cs[i]? =some (.int k (nth zs i))
theorem dE.row{w:World}{k:IntKind}{a:Option Addr}{zs:List Int}(h:dE w k a zs):Row w k a zs:=by
 intro i hi
 rcases h with h|⟨b,cs,t,rfl,hb,hc⟩
 ·omega
 ·exact⟨b,0,rfl,hb.lt,by rw[Nat.zero_add];exact hb.cell i (hc i hi)⟩
theorem dE.later{w w':World}{k:IntKind}{a:Option Addr}{zs:List Int}(h:dE w k a zs)(hb:Below w.heap.size w w'):dE w' k a zs:=by
 rcases h with h|⟨b,cs,t,rfl,hk,hc⟩
 ·exact .inl h
 ·exact .inr ⟨b,cs,t,rfl,hk.later hb,hc⟩
theorem dE.drw{w w':World}{k:IntKind}{a:Option Addr}{zs:List Int}(h:dE w k a zs)(hb:Drw w w'):dE w' k a zs:=h.later hb.new
theorem dE.alloc{w:World}{k:IntKind}{a:Option Addr}{zs:List Int}(h:dE w k a zs)(o:Obj):dE (w.alloc o) k a zs:=h.later (below_new w o)
theorem dE.touch{X:Nat→Prop}{w w':World}{k:IntKind}{a:Option Addr}{zs:List Int}(h:dE w k a zs)(t:Touch X w w')(hx:fw X a zs):dE w' k a zs:=by
 rcases h with h|⟨b,cs,t',rfl,hk,hc⟩
 ·exact .inl h
 ·by_cases h0:zs.length=0
  ·exact .inl h0
  ·exact .inr ⟨b,cs,t',rfl,hk.touch t (hx (by omega) b 0 rfl),hc⟩
theorem dE.set{w:World}{k:IntKind}{zs:List Int}{b i:Nat}(h:dE w k (some ⟨b,0,none⟩) zs)(hi:i<zs.length)(v:Int):dE (w.setCell ⟨b,i,none⟩ (.int k v)) k (some ⟨b,0,none⟩) (zs.set i v):=by
 rcases h with h|⟨b',cs,t,e,hk,hc⟩
 ·omega
 ·cases e
  refine .inr ⟨b,_,t,rfl,hk.set i (.int k v),fun j hj=> ?_⟩
  have hj':j<zs.length:=by simpa using hj
  have hcj:=hc j hj'
  have hjs:j<cs.size:=(Array.getElem?_eq_some_iff.1 hcj).1
  by_cases e:j=i
  ·subst e
   rw[Array.getElem?_setIfInBounds_self_of_lt hjs]
   unfold nth;simp[List.getD,hi]
  ·rw[Array.getElem?_setIfInBounds_ne (fun h=>e h.symm),hcj]
   unfold nth
   rw[List.getD_eq_getElem?_getD,List.getD_eq_getElem?_getD,List.getElem?_set_ne (fun h=>e h.symm)]
theorem dE.at{w:World}{k:IntKind}{a:Option Addr}{zs:List Int}(h:dE w k a zs){i:Nat}(hi:i<zs.length):∃b,a=some ⟨b,0,none⟩∧b<w.heap.size∧w.cell? ⟨b,i,none⟩=some (.int k (nth zs i))∧w.frozen? ⟨b,i,none⟩=false:=by
 rcases h with h|⟨b,cs,t,rfl,hk,hc⟩
 ·omega
 ·exact⟨b,rfl,hk.lt,hk.cell i (hc i hi),hk.free i⟩
theorem dE.of_owns{w:World}{B:Nat}{e:TypeId}{k:IntKind}{v:Value}{zs:List Int}(h:w.ownsRow B e 1 v zs.length (zs.map (Value.int k))):∃a cap,v=.slice a zs.length cap∧dE w k a zs:=by
 rcases h.2 with⟨h1,h2⟩|⟨g,cap,cur,h1,_,hg,_,_,_,ht⟩
 ·exact⟨none,0,by rw[h1,h2],.inl h2⟩
 ·refine⟨some ⟨g,0,none⟩,cap,h1,.inr ⟨g,cur,e,rfl,hg,fun i hi=> ?_⟩⟩
  have:(cur.toList.take (zs.length*1))[i]? =(zs.map (Value.int k))[i]? :=by rw[ht]
  rw[List.getElem?_take,if_pos (by omega),List.getElem?_map] at this
  rw[←Array.getElem?_toList,this]
  unfold nth
  simp[List.getD,hi]
def jE(n lo hi:Int):Int:=if hi<n then hi else if n<lo then lo else n
def cnt(n:Int):Int:=jE n 0 1125899906842624
def Ho(n:Int):Int:=if cnt n=0 then 1 else cnt n
def iy(a b:Int):Int:=if 0<b∧1125899906842624/b<a then 1125899906842624 else a*b
def IE(a b:Int):Int:=cnt a/Ho b
def OD(a b:Int):Int:=(cnt a+Ho b-1)/Ho b
theorem dS(n:Int):0≤cnt n∧cnt n≤1125899906842624:=by
 unfold cnt jE;split
 ·omega
 ·split<;>omega
theorem gN{n:Int}(h0:0≤n)(h1:n≤1125899906842624):cnt n=n:=by
 unfold cnt jE;rw[if_neg (by omega),if_neg (by omega)]
theorem MW{n:Int}(h1:n≤0):cnt n=0:=by
 unfold cnt jE;rw[if_neg (by omega)];split
 ·rfl
 ·omega
theorem nJ(n:Int):cnt n=max 0 (min n 1125899906842624):=by
 unfold cnt jE;split
 ·omega
 ·split<;>omega
theorem Iw(n:Int):1≤Ho n∧Ho n≤1125899906842624:=by
 have:=dS n
 unfold Ho;split<;>omega
theorem KM(n:Int):Ho n=max (cnt n) 1:=by
 have:=dS n
 unfold Ho;split<;>omega
theorem kT{a b:Int}(ha:0≤a)(hb:0≤b)(ha2:a≤1125899906842624)(hb2:b≤1125899906842624):iy a b=min 1125899906842624 (a*b):=by
 unfold iy
 by_cases h:0<b∧1125899906842624/b<a
 ·rw[if_pos h]
  have h1:=Int.emod_add_mul_ediv 1125899906842624 b
  have h2:=Int.emod_lt_of_pos 1125899906842624 h.1
  have h3:b*(1125899906842624/b+1)≤b*a:=Int.mul_le_mul_of_nonneg_left (by omega) hb
  rw[Int.mul_add,Int.mul_comm b a] at h3
  omega
 ·rw[if_neg h]
  by_cases hb0:b=0
  ·subst hb0;rw[Int.mul_zero];decide
  ·have hp:0<b:=by omega
   have h4:a≤1125899906842624/b:=by
    by_cases h5:1125899906842624/b<a
    ·exact absurd ⟨hp,h5⟩ h
    ·omega
   have h5:b*a≤b*(1125899906842624/b):=Int.mul_le_mul_of_nonneg_left h4 hb
   have h6:=Int.mul_ediv_self_le (x:=1125899906842624) (k:=b) (by omega)
   rw[Int.mul_comm b a] at h5
   omega
theorem Kh{a b:Int}(ha:0≤a)(hb:0≤b)(ha2:a≤1125899906842624)(hb2:b≤1125899906842624):0≤iy a b∧iy a b≤1125899906842624:=by
 rw[kT ha hb ha2 hb2]
 have:=Int.mul_nonneg ha hb
 omega
def gW(l:List Int):Int:=l.foldl (fun s n=>cnt (s+cnt n)) 0
def jU(l:List Int):Int:=l.foldl (fun s n=>iy s (cnt n)) 1
def oh(l:List Int)(k:Nat):Int:=gW (l.take k)
def ow(l:List Int)(k:Nat):Int:=jU (l.take k)
theorem qx{l:List Int}{k:Nat}(h:k<l.length):l.take (k+1)=l.take k++[nth l k]:=by
 rw[List.take_succ_eq_append_getElem h];unfold nth;simp[List.getD,h]
theorem ug{l:List Int}{k:Nat}(h:k<l.length):oh l (k+1)=cnt (oh l k+cnt (nth l k)):=by
 unfold oh gW;rw[qx h,List.foldl_append];rfl
theorem xA(l:List Int):oh l l.length=gW l:=by unfold oh;rw[List.take_length]
theorem uZ{l:List Int}{k:Nat}(h:k<l.length):ow l (k+1)=iy (ow l k) (cnt (nth l k)):=by
 unfold ow jU;rw[qx h,List.foldl_append];rfl
theorem xV(l:List Int):ow l l.length=jU l:=by unfold ow;rw[List.take_length]
def qo:List Int→Int
 |[]=>0
 |n::l=>cnt n+qo l
def kN:List Int→Int
 |[]=>1
 |n::l=>cnt n*kN l
theorem Fq(l:List Int):0≤qo l:=by
 induction l with
 |nil=>exact Int.le_refl _
 |cons n l ih=>have:=dS n;show 0≤cnt n+qo l;omega
theorem Bw(l:List Int):0≤kN l:=by
 induction l with
 |nil=>decide
 |cons n l ih=>exact Int.mul_nonneg (dS n).1 ih
theorem Cg(l m:List Int):qo (l++m)=qo l+qo m:=by
 induction l with
 |nil=>show qo m=0+qo m;omega
 |cons n l ih=>show cnt n+qo (l++m)=cnt n+qo l+qo m;rw[ih];omega
theorem zn(l m:List Int):kN (l++m)=kN l*kN m:=by
 induction l with
 |nil=>show kN m=1*kN m;omega
 |cons n l ih=>show cnt n*kN (l++m)=cnt n*kN l*kN m;rw[ih,Int.mul_assoc]
theorem JQ(n:Int):qo [n]=cnt n:=by show cnt n+0=cnt n;omega
theorem Gw(n:Int):kN [n]=cnt n:=by show cnt n*1=cnt n;omega
theorem Il(l:List Int):gW l=min 1125899906842624 (qo l):=by
 have h:∀k,k≤l.length→oh l k=min 1125899906842624 (qo (l.take k)):=by
  intro k
  induction k with
  |zero=>intro _;rfl
  |succ k ih=>
   intro hk
   rw[ug hk,ih (by omega),qx hk,Cg,JQ,nJ]
   have h1:=Fq (l.take k)
   have h2:=dS (nth l k)
   omega
 have:=h l.length (Nat.le_refl _)
 rwa[xA,List.take_length] at this
theorem Ez(l:List Int):0≤gW l∧gW l≤1125899906842624:=by
 rw[Il];have:=Fq l;omega
theorem Im(l:List Int)(k:Nat):0≤oh l k∧oh l k≤1125899906842624:=Ez _
theorem min_mul{p c:Int}(hp:0≤p)(hc:0≤c):min 1125899906842624 (min 1125899906842624 p*c)=min 1125899906842624 (p*c):=by
 by_cases h:p≤1125899906842624
 ·rw[show min 1125899906842624 p=p by omega]
 ·rw[show min 1125899906842624 p=1125899906842624 by omega]
  by_cases h0:c=0
  ·subst h0;rw[Int.mul_zero,Int.mul_zero]
  ·have h1:1125899906842624*1≤1125899906842624*c:=Int.mul_le_mul_of_nonneg_left (by omega) (by decide)
   have h2:1125899906842624*c≤p*c:=Int.mul_le_mul_of_nonneg_right (by omega) hc
   omega
theorem Dz(l:List Int):∀k,k≤l.length→ow l k=min 1125899906842624 (kN (l.take k)):=by
 intro k
 induction k with
 |zero=>intro _;rfl
 |succ k ih=>
  intro hk
  have h1:=Bw (l.take k)
  have h2:=dS (nth l k)
  rw[uZ hk,ih (by omega),qx hk,zn,Gw,kT (by omega) h2.1 (by omega) h2.2,min_mul h1 h2.1]
theorem Gr(l:List Int):jU l=min 1125899906842624 (kN l):=by
 have:=Dz l l.length (Nat.le_refl _)
 rwa[xV,List.take_length] at this
theorem Lu(l:List Int):0≤jU l∧jU l≤1125899906842624:=by
 rw[Gr];have:=Bw l;omega
theorem Jr(l:List Int)(k:Nat):0≤ow l k∧ow l k≤1125899906842624:=Lu _
theorem FD(l:List Int)(n:Int):gW (l++[n])=cnt (gW l+cnt n):=by
 unfold gW;rw[List.foldl_append];rfl
theorem zX(a b:Int):gW [a,b]=cnt (cnt a+cnt b):=by
 show cnt (cnt (0+cnt a)+cnt b)=_
 rw[Int.zero_add,gN (dS a).1 (dS a).2]
theorem Bg(a b:Int):jU [a,b]=iy (cnt a) (cnt b):=by
 show iy (iy 1 (cnt a)) (cnt b)=_
 rw[kT (by decide) (dS a).1 (by decide) (dS a).2,Int.one_mul]
 have:=dS a
 rw[show min 1125899906842624 (cnt a)=cnt a by omega]
structure May (N W R K:Int):Prop where
 n0:1≤N
 n1:N≤1048576
 w0:16≤W
 w1:W≤256
 r0:1≤R
 r1:R≤4096
 k0:1≤K
 k1:K≤65536
 nw:N*W≤4194304
theorem Iz{n lo hi:Int}(h0:lo≤n)(h1:n≤hi):jE n lo hi=n:=by
 unfold jE;rw[if_neg (by omega),if_neg (by omega)]
theorem kX{a b:Int}(ha:0≤a)(hb:0≤b)(h:a+b≤1125899906842624):gW [a,b]=a+b:=by
 rw[zX,gN ha (by omega),gN hb (by omega),gN (by omega) h]
theorem KH{a b c:Int}(ha:0≤a)(hb:0≤b)(hc:0≤c)(h:a+b+c≤1125899906842624):gW [a,b,c]=a+b+c:=by
 have:=FD [a,b] c
 rw[show[a,b]++[c]=[a,b,c] from rfl,kX ha hb (by omega),gN hc (by omega),gN (by omega) h] at this
 exact this
theorem jY{a b:Int}(ha:0≤a)(hb:0≤b)(h1:a≤1125899906842624)(h2:b≤1125899906842624)(h:a*b≤1125899906842624):jU [a,b]=a*b:=by
 rw[Bg,gN ha h1,gN hb h2,kT ha hb h1 h2]
 omega
theorem Ko{a b:Int}(ha:0≤a)(h1:a≤1125899906842624)(hb:1≤b)(h2:b≤1125899906842624):OD a b=(a+b-1)/b:=by
 have e:Ho b=b:=by unfold Ho;rw[gN (by omega) h2,if_neg (by omega)]
 unfold OD
 rw[e,gN ha h1]
def zS(N W R:Int):Int:=24+R+N*W
def gX(N W:Int):Int:=N*(W+1)
def gP(N W:Int):Int:=3*(N*(W+1))+4
def fieldsI(W:Int):Int:=(W-8)*(W-1)
def CS(a b:Int):Int:=(a+b-1)/b
def Nq(N W K:Int):Int:=2*CS (gP N W) K+2*(W-7)
def zy(N W K:Int):Int:=CS (2*gP N W+gX N W) K+2
theorem xW{a b A B:Int}(ha:0≤a)(hb:0≤b)(h1:a≤A)(h2:b≤B):0≤a*b∧a*b≤A*B:=
 ⟨Int.mul_nonneg ha hb,Int.mul_le_mul h1 h2 hb (by omega)⟩
theorem EZ{N W R K:Int}(h:May N W R K):16≤N*W∧N*W≤4194304:=by
 have:=Int.mul_le_mul h.n0 h.w0 (by omega) (by have:=h.n0;omega)
 exact⟨by omega,h.nw⟩
theorem IJ(N W:Int):gX N W=N*W+N:=by unfold gX;rw[Int.mul_add];omega
theorem Ap{N W R K:Int}(h:May N W R K):17≤gX N W∧gX N W≤5242880:=by
 have:=EZ h
 have:=h.n0;have:=h.n1
 rw[IJ];omega
theorem IM(N W:Int):gP N W=3*gX N W+4:=rfl
theorem IL{N W R K:Int}(h:May N W R K):55≤gP N W∧gP N W≤15728644:=by
 have:=Ap h
 rw[IM];omega
theorem gV{W:Int}(h0:16≤W)(h1:W≤256):120≤fieldsI W∧fieldsI W≤63240:=by
 have a:=Int.mul_le_mul (show(8:Int)≤W-8 by omega) (show(15:Int)≤W-1 by omega) (by omega) (by omega)
 have b:=Int.mul_le_mul (show W-8≤248 by omega) (show W-1≤255 by omega) (by omega) (by omega)
 unfold fieldsI;omega
theorem Ep{a b:Int}(ha:0≤a)(hb:1≤b):0≤CS a b∧CS a b≤a∧a≤b*CS a b∧b*CS a b<a+b:=by
 unfold CS
 have h1:=Int.emod_add_mul_ediv (a+b-1) b
 have h2:=Int.emod_nonneg (a+b-1) (show b≠0 by omega)
 have h3:=Int.emod_lt_of_pos (a+b-1) (show 0<b by omega)
 have h4:0≤(a+b-1)/b:=Int.ediv_nonneg (by omega) (by omega)
 refine⟨h4,?_,by omega,by omega⟩
 by_cases h5:a=0
 ·subst h5
  have:(0+b-1)/b=0:=Int.ediv_eq_zero_of_lt (by omega) (by omega)
  omega
 ·have h6:(a+b-1)/b<a+1:=by
   apply Int.ediv_lt_of_lt_mul (by omega)
   have h7:a*1≤a*b:=Int.mul_le_mul_of_nonneg_left hb ha
   have:(a+1)*b=a*b+b:=by rw[Int.add_mul];omega
   omega
  omega
def pw(n:Int):Int:=2^n.toNat
theorem nk(n:Int):0<pw n:=Int.pow_pos (by decide)
def cz(at' n:Int):Bool:=decide (0≤at'∧1≤n∧n≤32∧at'≤32-n)
theorem iJ{a n:Int}(h:cz a n=true):0≤a∧1≤n∧n≤32∧a≤32-n:=of_decide_eq_true h
theorem Gv{a n:Int}(h:cz a n=false):¬(0≤a∧1≤n∧n≤32∧a≤32-n):=of_decide_eq_false h
def gz(w a n:Int):Int:=if cz a n=true then w/pw a%pw n else 0
def qM(v n:Int):Bool:=decide (v<pw n)
def BD(w a n v:Int):Int:=w-gz w a n*pw a+v*pw a
theorem ML{m n:Int}(h:m≤n):pw m≤pw n:=by
 unfold pw
 have h1:m.toNat≤n.toNat:=by omega
 have:=Nat.pow_le_pow_right (n:=2) (by decide) h1
 exact_mod_cast this
theorem NW{m n:Int}(hm:0≤m)(hn:0≤n):pw (m+n)=pw m*pw n:=by
 unfold pw
 rw[Int.toNat_add hm hn,Int.pow_add]
theorem JK:pw 32=4294967296:=by decide
theorem Pq:pw 0=1:=by decide
theorem NY{n:Int}(h:n≤0):pw n=1:=by
 unfold pw
 have:n.toNat=0:=by omega
 rw[this];rfl
theorem Fe{n:Int}(h:n≤32):pw n≤4294967296:=by rw[←JK];exact ML h
theorem LX{n:Int}(h:32≤n):4294967296≤pw n:=by rw[←JK];exact ML h
theorem Ll{n:Int}(h1:1≤n)(h2:n≤32):(4294967295:Int)/2^(32-n).toNat=pw n-1:=by
 have e:pw n*pw (32-n)=4294967296:=by
  rw[←NW (by omega) (by omega),show n+(32-n)=32 by omega,JK]
 have hp:=nk (32-n)
 have hq:=nk n
 show(4294967295:Int)/pw (32-n)=pw n-1
 have e2:(4294967295:Int)=(pw (32-n)-1)+(pw n-1)*pw (32-n):=by
  rw[Int.sub_mul,e];omega
 rw[e2,Int.add_mul_ediv_right _ _ (by omega),Int.ediv_eq_zero_of_lt (by omega) (by omega)]
 omega
theorem La{w a n:Int}(h0:0≤w):0≤gz w a n:=by
 unfold gz;split
 ·exact Int.emod_nonneg _ (by have:=nk n;omega)
 ·exact Int.le_refl _
theorem Lb{w a n:Int}:gz w a n<pw n:=by
 unfold gz;split
 ·exact Int.emod_lt_of_pos _ (nk n)
 ·exact nk n
theorem KZ{w a n:Int}(h0:0≤w)(h1:w≤4294967295):gz w a n≤4294967295:=by
 by_cases hp:cz a n=true
 ·have h:=iJ hp
  have:=Lb (w:=w) (a:=a) (n:=n)
  have:=Fe h.2.2.1
  omega
 ·have:gz w a n=0:=by unfold gz;rw[if_neg hp]
  omega
theorem Lc{w a n:Int}(h0:0≤w)(h1:w≤4294967295)(hp:cz a n=true):
  bits .and .u32 (w/2^a.toNat) (pw n-1)=gz w a n:=by
 obtain⟨ha,hn1,hn2,hd⟩:=iJ hp
 have hle:w/pw a≤w:=Int.ediv_le_self _ h0
 have hge:0≤w/pw a:=Int.ediv_nonneg h0 (Int.le_of_lt (nk a))
 have hm:=Fe hn2
 have hp0:=nk n
 show bits .and .u32 (w/pw a) (pw n-1)=_
 rw[u32_and _ _ hge (by omega) (by omega) (by omega)]
 unfold gz
 rw[if_pos hp]
 obtain⟨X,hX⟩:=Int.eq_ofNat_of_zero_le hge
 rw[hX]
 have e:(pw n-1).toNat=2^n.toNat-1:=by
  unfold pw
  have:((2:Int)^n.toNat)=((2^n.toNat:Nat):Int):=by simp
  rw[this];omega
 rw[e,Int.toNat_natCast,Nat.and_two_pow_sub_one_eq_mod]
 unfold pw
 simp
theorem Eb(w a n:Nat):w=(w/2^(a+n))*2^(a+n)+(w/2^a%2^n)*2^a+w%2^a:=by
 have h1:=Nat.div_add_mod w (2^a)
 have h2:=Nat.div_add_mod (w/2^a) (2^n)
 rw[Nat.div_div_eq_div_mul,←Nat.pow_add] at h2
 have h3:2^a*(2^n*(w/2^(a+n)))=w/2^(a+n)*2^(a+n):=by
  rw[Nat.pow_add,←Nat.mul_assoc,Nat.mul_comm]
 have h4:2^a*(w/2^a)=2^a*(2^n*(w/2^(a+n)))+2^a*(w/2^a%2^n):=by
  rw[←Nat.mul_add,h2]
 have h5:2^a*(w/2^a%2^n)=w/2^a%2^n*2^a:=Nat.mul_comm _ _
 omega
theorem tO(w a n v:Nat)(hv:v<2^n)(hw:w<2^32)(hn:a+n≤32):
  (w &&& (4294967295-(2^n-1)*2^a)) ||| v*2^a=(w/2^(a+n))*2^(a+n)+v*2^a+w%2^a:=by
 have hmul:(2^n-1)*2^a<2^32:=by
  have h1:(2^n-1)*2^a<2^n*2^a:=Nat.mul_lt_mul_of_pos_right (by have:=Nat.two_pow_pos n;omega) (Nat.two_pow_pos a)
  rw[←Nat.pow_add] at h1
  exact Nat.lt_of_lt_of_le h1 (Nat.pow_le_pow_right (by decide) (by omega))
 have hlow:v*2^a+w%2^a<2^(a+n):=by
  have h1:(v+1)*2^a≤2^n*2^a:=Nat.mul_le_mul_right _ hv
  rw[Nat.add_mul,Nat.one_mul] at h1
  have h2:=Nat.mod_lt w (Nat.two_pow_pos a)
  rw[Nat.pow_add,Nat.mul_comm (2^a)]
  omega
 apply Nat.eq_of_testBit_eq
 intro j
 have e1:(4294967295-(2^n-1)*2^a)=2^32-((2^n-1)*2^a+1):=by omega
 rw[Nat.testBit_or,Nat.testBit_and,e1,Nat.testBit_two_pow_sub_succ hmul]
 rw[Nat.add_assoc,Nat.mul_comm (w/2^(a+n)),Nat.testBit_two_pow_mul_add _ hlow,Nat.mul_comm v,Nat.testBit_two_pow_mul_add _ (Nat.mod_lt w (Nat.two_pow_pos a))]
 rw[Nat.mul_comm (2^n-1),Nat.testBit_two_pow_mul,Nat.testBit_two_pow_mul,Nat.testBit_two_pow_sub_one,Nat.testBit_mod_two_pow,Nat.testBit_div_two_pow]
 by_cases hj:j<a
 ·have h1:¬a≤j:=by omega
  have h2:j<a+n:=by omega
  have h3:j<32:=by omega
  simp[hj,h1,h2,h3]
 ·by_cases hj2:j<a+n
  ·have h1:a≤j:=by omega
   have h2:j-a<n:=by omega
   simp[hj,hj2,h1,h2]
  ·have h1:a≤j:=by omega
   have h2:¬j-a<n:=by omega
   have h3:v.testBit (j-a)=false:=by
    apply Nat.testBit_lt_two_pow
    exact Nat.lt_of_lt_of_le hv (Nat.pow_le_pow_right (by decide) (by omega))
   have h4:a+n+(j-(a+n))=j:=by omega
   have h6:j-(a+n)+(a+n)=j:=by omega
   by_cases h5:j<32
   ·simp[hj,hj2,h1,h2,h3,h4,h5,h6]
   ·have hwj:w.testBit j=false:=by
     apply Nat.testBit_lt_two_pow
     exact Nat.lt_of_lt_of_le hw (Nat.pow_le_pow_right (by decide) (by omega))
    simp[hj,hj2,h1,h2,h3,h4,h5,h6,hwj]
theorem NP{w a n v:Int}(h0:0≤w)(h1:w≤4294967295)(hv0:0≤v)(hp:cz a n=true)(hf:qM v n=true):
  bits .or .u32 (bits .andNot .u32 w (IntKind.u32.wrap ((pw n-1)*2^a.toNat))) (IntKind.u32.wrap (v*2^a.toNat))=BD w a n v:=by
 obtain⟨ha,hn1,hn2,hd⟩:=iJ hp
 have hv:v<pw n:=of_decide_eq_true hf
 obtain⟨A,rfl⟩:=Int.eq_ofNat_of_zero_le ha
 obtain⟨N,rfl⟩:=Int.eq_ofNat_of_zero_le (by omega:0≤n)
 obtain⟨W,rfl⟩:=Int.eq_ofNat_of_zero_le h0
 obtain⟨V,rfl⟩:=Int.eq_ofNat_of_zero_le hv0
 have eN:pw (N:Int)=((2^N:Nat):Int):=by unfold pw;simp
 have eA:pw (A:Int)=((2^A:Nat):Int):=by unfold pw;simp
 have eA2:(2:Int)^(A:Int).toNat=((2^A:Nat):Int):=by simp
 have hV:V<2^N:=by rw[eN] at hv;exact_mod_cast hv
 have hs:A+N≤32:=by omega
 have hW:W<2^32:=by omega
 have hpos:=Nat.two_pow_pos N
 have eM:(pw (N:Int)-1)*2^(A:Int).toNat=(((2^N-1)*2^A:Nat):Int):=by
  rw[eN,eA2,Int.natCast_mul,Int.natCast_sub hpos];simp
 have eV:(V:Int)*2^(A:Int).toNat=((V*2^A:Nat):Int):=by rw[eA2,Int.natCast_mul]
 have bM:(2^N-1)*2^A<2^32:=by
  have h1:(2^N-1)*2^A<2^N*2^A:=Nat.mul_lt_mul_of_pos_right (by omega) (Nat.two_pow_pos A)
  rw[←Nat.pow_add] at h1
  exact Nat.lt_of_lt_of_le h1 (Nat.pow_le_pow_right (by decide) (by omega))
 have bV:V*2^A<2^32:=by
  have h1:V*2^A<2^N*2^A:=Nat.mul_lt_mul_of_pos_right hV (Nat.two_pow_pos A)
  rw[←Nat.pow_add] at h1
  exact Nat.lt_of_lt_of_le h1 (Nat.pow_le_pow_right (by decide) (by omega))
 rw[eM,eV,IntKind.wrap_u32,IntKind.wrap_u32]
 rw[show((((2^N-1)*2^A:Nat):Int))%4294967296=(((2^N-1)*2^A:Nat):Int) from by omega]
 rw[show((V*2^A:Nat):Int)%4294967296=((V*2^A:Nat):Int) from by omega]
 rw[u32_andNot _ _ (by omega) (by omega) (by omega) (by omega)]
 have hle:W &&& (4294967295-(2^N-1)*2^A)≤W:=Nat.and_le_left
 rw[Int.toNat_natCast,Int.toNat_natCast,u32_or _ _ (by omega) (by omega) (by omega) (by omega),Int.toNat_natCast,Int.toNat_natCast,tO W A N V hV hW hs]
 unfold BD gz
 rw[if_pos hp,eN,eA]
 have hsw:=Eb W A N
 have e1:((W:Int)/((2^A:Nat):Int)%((2^N:Nat):Int))=((W/2^A%2^N:Nat):Int):=by simp
 rw[e1,←Int.natCast_mul,←Int.natCast_mul]
 omega
theorem IQ{v n:Int}(h0:0≤v)(h1:v≤4294967295)(hn:0≤n):(v/2^min n.toNat 32==0)=qM v n:=by
 unfold qM
 rw[Bool.eq_iff_iff,beq_iff_eq,decide_eq_true_iff]
 by_cases h:n≤32
 ·have e:min n.toNat 32=n.toNat:=by omega
  rw[e]
  show v/pw n=0↔v<pw n
  constructor
  ·intro hz
   have h2:=Int.lt_ediv_add_one_mul_self v (nk n)
   rw[hz] at h2
   omega
  ·intro hlt;exact Int.ediv_eq_zero_of_lt h0 hlt
 ·have e:min n.toNat 32=32:=by omega
  rw[e]
  have hz:v/2^32=0:=Int.ediv_eq_zero_of_lt h0 (by omega)
  have:=LX (n:=n) (by omega)
  constructor
  ·intro _;omega
  ·intro _;exact hz
theorem IP{v n:Int}(h0:0≤v)(hn:n≤0):(v==0)=qM v n:=by
 unfold qM
 rw[NY hn,Bool.eq_iff_iff,beq_iff_eq,decide_eq_true_iff]
 omega
def sumTo(zs:List Int):Nat→Int
 |0=>0
 |k+1=>sumTo zs k+nth zs k
def lQ(x:Int)(zs:List Int)(k:Nat):List Int:=(List.range k).map fun j=>gz x (sumTo zs j) (nth zs j)
theorem nA(x:Int)(zs:List Int)(k:Nat):(lQ x zs k).length=k:=by simp[lQ]
set_option maxHeartbeats 400000 in
theorem mU(n:Int)(w:World)(h1:1≤n)(h2:n≤32):
  Calls Tryz.prog 227 #[.int .i64 n] w fun e w'=>e=.returned (.bool true)∧w=w':=by
 go_enter Tryz.func227,Tryz.ntmps227
 go_wp2
 go_ret
 exact⟨rfl,rfl⟩
set_option maxHeartbeats 400000 in
theorem Dl(n:Int)(w:World)(h:¬(1≤n∧n≤32)):
  Calls Tryz.prog 227 #[.int .i64 n] w fun e w'=>e=.returned (.bool false)∧w=w':=by
 by_cases h1:1≤n
 ·have h2:¬n≤32:=fun h2=>h ⟨h1,h2⟩
  clear h
  go_enter Tryz.func227,Tryz.ntmps227
  go_wp2
  go_ret
  exact⟨rfl,rfl⟩
 ·clear h
  go_enter Tryz.func227,Tryz.ntmps227
  go_wp2
  go_ret
  exact⟨rfl,rfl⟩
set_option maxHeartbeats 400000 in
theorem mR(a n:Int)(w:World)(hp:cz a n=true):
  Calls Tryz.prog 212 #[.int .i64 a,.int .i64 n] w fun e w'=>e=.returned (.bool true)∧w=w':=by
 obtain⟨h0,h1,h2,h3⟩:=iJ hp
 clear hp
 go_enter Tryz.func212,Tryz.ntmps212
 go_wp2_with (go_at_call 227;refine(mU _ _ (by omega) (by omega)).mono ?_;rintro e w' ⟨rfl,rfl⟩)
 go_ret
 exact⟨rfl,rfl⟩
set_option maxHeartbeats 400000 in
theorem uM(a n:Int)(w:World)(hp:cz a n=false):
  Calls Tryz.prog 212 #[.int .i64 a,.int .i64 n] w fun e w'=>e=.returned (.bool false)∧w=w':=by
 have h:=Gv hp
 clear hp
 by_cases hw:1≤n∧n≤32
 ·obtain⟨h1,h2⟩:=hw
  by_cases h0:0≤a
  ·have h3:¬a≤32-n:=fun h3=>h ⟨h0,h1,h2,h3⟩
   clear h
   go_enter Tryz.func212,Tryz.ntmps212
   go_wp2_with (go_at_call 227;refine(mU _ _ (by omega) (by omega)).mono ?_;rintro e w' ⟨rfl,rfl⟩)
   go_ret
   exact⟨aI (decide_eq_false (by omega)),rfl⟩
  ·clear h
   go_enter Tryz.func212,Tryz.ntmps212
   go_wp2_with (go_at_call 227;refine(mU _ _ (by omega) (by omega)).mono ?_;rintro e w' ⟨rfl,rfl⟩)
   go_ret
   exact⟨rfl,rfl⟩
 ·clear h
  have hW:Hid (¬(1≤n∧n≤32)):=hw
  clear hw
  go_enter Tryz.func212,Tryz.ntmps212
  go_wp2_with (go_at_call 227;refine(Dl _ _ hW.out).mono ?_;rintro e w' ⟨rfl,rfl⟩)
  go_ret
  exact⟨rfl,rfl⟩
set_option maxHeartbeats 400000 in
theorem si(n:Int)(w:World)(h1:1≤n)(h2:n≤32):
  Calls Tryz.prog 213 #[.int .i64 n] w fun e w'=>e=.returned (.int .u32 (pw n-1))∧w=w':=by
 go_enter Tryz.func213,Tryz.ntmps213
 go_wp2
 go_ret
 exact⟨bP (Ll h1 h2),rfl⟩
set_option maxHeartbeats 400000 in
theorem Av(v n:Int)(w:World)(h0:0≤v)(h1:v≤4294967295):
  Calls Tryz.prog 224 #[.int .u32 v,.int .i64 n] w fun e w'=>e=.returned (.bool (qM v n))∧w=w':=by
 by_cases hn:0≤n
 ·go_enter Tryz.func224,Tryz.ntmps224
  go_wp2
  go_ret
  exact⟨aI (IQ h0 h1 hn),rfl⟩
 ·go_enter Tryz.func224,Tryz.ntmps224
  go_wp2
  go_ret
  exact⟨aI (IP h0 (by omega)),rfl⟩
set_option maxHeartbeats 400000 in
theorem Le(x a n:Int)(w:World)(h0:0≤x)(h1:x≤4294967295)(hp:cz a n=true):
  Calls Tryz.prog 174 #[.int .u32 x,.int .i64 a,.int .i64 n] w fun e w'=>e=.returned (.int .u32 (gz x a n))∧∃k,w'=w.drewN k:=by
 obtain⟨g0,g1,g2,g3⟩:=iJ hp
 have HG:Hid (bits .and .u32 (x/2^a.toNat) (pw n-1)=gz x a n):=Lc h0 h1 hp
 have HP:Hid (cz a n=true):=hp
 clear hp
 go_enter Tryz.func174,Tryz.ntmps174
 go_wp2_with (go_at_call 212;refine(mR _ _ _ HP.out).mono ?_;rintro e w' ⟨rfl,rfl⟩)
 go_quiet ((go_at_call 213;exact BH (si _ _ g1 g2)))
 go_wp2
 go_ret
 exact⟨bP HG.out,_,rfl⟩
set_option maxHeartbeats 400000 in
theorem Nc(x a n:Int)(w:World)(hp:cz a n=false):
  Calls Tryz.prog 174 #[.int .u32 x,.int .i64 a,.int .i64 n] w fun e w'=>e=.returned (.int .u32 0)∧w=w':=by
 have HP:Hid (cz a n=false):=hp
 clear hp
 go_enter Tryz.func174,Tryz.ntmps174
 go_wp2_with (go_at_call 212;refine(uM _ _ _ HP.out).mono ?_;rintro e w' ⟨rfl,rfl⟩)
 go_ret
 exact⟨rfl,rfl⟩
theorem LZ{a b c:Int}(h:a=b):Ending.returned (.tuple #[.int .u32 a,.int .i64 c])=.returned (.tuple #[.int .u32 b,.int .i64 c]):=by rw[h]
set_option maxHeartbeats 400000 in
theorem NN(x a n v:Int)(w:World)(hp:cz a n=false):
  Calls Tryz.prog 203 #[.int .u32 x,.int .i64 a,.int .i64 n,.int .u32 v] w fun e w'=>e=.returned (.tuple #[.int .u32 0,.int .i64 2])∧w=w':=by
 have HP:Hid (cz a n=false):=hp
 clear hp
 go_enter Tryz.func203,Tryz.ntmps203
 go_wp2_with (go_at_call 212;refine(uM _ _ _ HP.out).mono ?_;rintro e w' ⟨rfl,rfl⟩)
 go_ret2
 exact⟨rfl,rfl⟩
set_option maxHeartbeats 400000 in
theorem LV(x a n v:Int)(w:World)(hp:cz a n=true)(hv0:0≤v)(hv1:v≤4294967295)(hf:qM v n=false):
  Calls Tryz.prog 203 #[.int .u32 x,.int .i64 a,.int .i64 n,.int .u32 v] w fun e w'=>e=.returned (.tuple #[.int .u32 0,.int .i64 15])∧w=w':=by
 have HP:Hid (cz a n=true):=hp
 clear hp
 go_enter Tryz.func203,Tryz.ntmps203
 go_wp2_with (first|(go_at_call 212;refine(mR _ _ _ HP.out).mono ?_;rintro e w' ⟨rfl,rfl⟩)|(go_at_call 224;refine(Av _ _ _ hv0 hv1).mono ?_;rintro e w' ⟨rfl,rfl⟩))
 go_ret2
 exact⟨rfl,rfl⟩
set_option maxHeartbeats 400000 in
theorem LW(x a n v:Int)(w:World)(h0:0≤x)(h1:x≤4294967295)(hp:cz a n=true)(hv0:0≤v)(hv1:v≤4294967295)(hf:qM v n=true):
  Calls Tryz.prog 203 #[.int .u32 x,.int .i64 a,.int .i64 n,.int .u32 v] w fun e w'=>e=.returned (.tuple #[.int .u32 (BD x a n v),.int .i64 0])∧∃k,w'=w.drewN k:=by
 obtain⟨g0,g1,g2,g3⟩:=iJ hp
 have HG:Hid (bits .or .u32 (bits .andNot .u32 x (IntKind.u32.wrap ((pw n-1)*2^a.toNat))) (IntKind.u32.wrap (v*2^a.toNat))=BD x a n v):=NP h0 h1 hv0 hp hf
 have HP:Hid (cz a n=true):=hp
 clear hp
 go_enter Tryz.func203,Tryz.ntmps203
 go_wp2_with (first|(go_at_call 212;refine(mR _ _ _ HP.out).mono ?_;rintro e w' ⟨rfl,rfl⟩)|(go_at_call 224;refine(Av _ _ _ hv0 hv1).mono ?_;rintro e w' ⟨rfl,rfl⟩))
 go_quiet ((go_at_call 213;exact BH (si _ _ g1 g2)))
 go_wp2
 go_ret2
 exact⟨LZ HG.out,_,rfl⟩
def part(x:Int)(zs:List Int)(k:Nat):List Value:=(lQ x zs k++List.replicate (zs.length-k) 0).map (Value.int .u32)
def Ie(x:Int)(zs:List Int)(w:World)(e:Ending)(w':World):Prop:=
 ∃a cap,e=.returned (.tuple #[.slice a zs.length cap,.int .i64 0])∧Row w' .u32 a (lQ x zs zs.length)∧Below w.heap.size w w'
theorem Ie.mk{x:Int}{zs:List Int}{w w':World}{v:Value}{B:Nat}{t:TypeId}
  (h:w'.ownsRow B t 1 v zs.length ((lQ x zs zs.length).map (Value.int .u32))) (hb:Below w.heap.size w w'):Ie x zs w (.returned (.tuple #[v,.int .i64 0])) w':=by
 have h2:w'.ownsRow B t 1 v (lQ x zs zs.length).length ((lQ x zs zs.length).map (Value.int .u32)):=by rw[nA];exact h
 obtain⟨a,cap,hv,hr⟩:=Row.of_owns h2
 rw[nA] at hv
 exact⟨a,cap,by rw[hv],hr,hb⟩
def qi(x a n v:Int):Int:=if cz a n=true then(if qM v n=true then BD x a n v else 0) else 0
def JG(a n v:Int):Int:=if cz a n=true then(if qM v n=true then 0 else 15) else 2
theorem BG{x a n v:Int}(h1:cz a n=true)(h2:qM v n=true):qi x a n v=BD x a n v:=by unfold qi;rw[if_pos h1,if_pos h2]
theorem JH{a n v:Int}(h1:cz a n=true)(h2:qM v n=true):JG a n v=0:=by unfold JG;rw[if_pos h1,if_pos h2]
theorem vB{a b c d:Int}(h:a=b)(h2:c=d):Ending.returned (.tuple #[.int .u32 a,.int .i64 c])=.returned (.tuple #[.int .u32 b,.int .i64 d]):=by rw[h,h2]
theorem Ld(x a n:Int)(w:World)(h0:0≤x)(h1:x≤4294967295):
  Calls Tryz.prog 174 #[.int .u32 x,.int .i64 a,.int .i64 n] w fun e w'=>e=.returned (.int .u32 (gz x a n))∧Drw w w':=by
 cases hp:cz a n
 ·refine(Nc x a n w hp).mono fun e w' ⟨he,hw⟩=>⟨?_,hw▸Drw.refl w⟩
  rw[he];exact bP (by unfold gz;rw[hp];rfl)
 ·exact Le x a n w h0 h1 hp
theorem LU(x a n v:Int)(w:World)(h0:0≤x)(h1:x≤4294967295)(hv0:0≤v)(hv1:v≤4294967295):
  Calls Tryz.prog 203 #[.int .u32 x,.int .i64 a,.int .i64 n,.int .u32 v] w fun e w'=>e=.returned (.tuple #[.int .u32 (qi x a n v),.int .i64 (JG a n v)])∧Drw w w':=by
 cases hp:cz a n
 ·refine(NN x a n v w hp).mono fun e w' ⟨he,hw⟩=>⟨?_,hw▸Drw.refl w⟩
  rw[he];exact vB (by unfold qi;rw[hp];rfl) (by unfold JG;rw[hp];rfl)
 ·cases hf:qM v n
  ·refine(LV x a n v w hp hv0 hv1 hf).mono fun e w' ⟨he,hw⟩=>⟨?_,hw▸Drw.refl w⟩
   rw[he];exact vB (by unfold qi;rw[hp,hf];rfl) (by unfold JG;rw[hp,hf];rfl)
  ·refine(LW x a n v w h0 h1 hp hv0 hv1 hf).mono fun e w' ⟨he,hw⟩=>⟨?_,hw⟩
   rw[he];exact vB (BG hp hf).symm (JH hp hf).symm
open Classical in
open Classical in
open Classical in
open Classical in
def iH(n b:Int):Bool:=decide (0≤n∧n<b)
theorem EN{n b:Int}(h:iH n b=true):0≤n∧n<b:=of_decide_eq_true h
theorem Np{n b:Int}(h:0≤n∧n<b):iH n b=true:=decide_eq_true h
theorem EL{n b:Int}(h:¬(0≤n∧n<b)):iH n b=false:=decide_eq_false h
def rT(c n s d g:Int):Bool:=iH c 2&&iH n 2&&iH s 2&&iH d 2&&iH g 2
def oz(c n s d g:Int):Bool:=decide (c=0∧n=0∧s=0∧d=0∧g=0)
def dh(k c n s d g o:Int):Bool:=iH k 4&&iH o 1048576&&(k==3||o==0)&&rT c n s d g&&(!(k==0||k==3)||oz c n s d g)
def bu(k c n s d g o:Int):Prop:=
 (0≤k∧k<4)∧(0≤o∧o<1048576)∧(k=3∨o=0)∧(0≤c∧c<2)∧(0≤n∧n<2)∧(0≤s∧s<2)∧(0≤d∧d<2)∧(0≤g∧g<2)∧((k=0∨k=3)→c=0∧n=0∧s=0∧d=0∧g=0)
theorem iK{k c n s d g o:Int}:dh k c n s d g o=true↔bu k c n s d g o:=by
 unfold dh bu rT oz iH
 simp only[Bool.and_eq_true,Bool.or_eq_true,Bool.not_eq_true',Bool.or_eq_false_iff,decide_eq_true_eq,beq_iff_eq,beq_eq_false_iff_ne,ne_eq]
 omega
theorem vD{k c n s d g o:Int}(h:dh k c n s d g o=true):bu k c n s d g o:=iK.1 h
theorem jA{k c n s d g o:Int}(h:bu k c n s d g o):dh k c n s d g o=true:=iK.2 h
theorem Gy{k c n s d g o:Int}(h:¬bu k c n s d g o):dh k c n s d g o=false:=by
 cases h2:dh k c n s d g o with
 |false=>rfl
 |true=>exact absurd (vD h2) h
theorem uj{a b:Bool}(h:a=true↔b=true):a=b:=by cases a<;>cases b<;>simp_all
theorem xX{c n s d g:Int}:oz c n s d g=true↔c=0∧n=0∧s=0∧d=0∧g=0:=by unfold oz;simp
theorem FJ{c n s d g:Int}:rT c n s d g=true↔(0≤c∧c<2)∧(0≤n∧n<2)∧(0≤s∧s<2)∧(0≤d∧d<2)∧(0≤g∧g<2):=by
 unfold rT iH;simp[and_assoc]
theorem Px{k c n s d g o:Int}(h:iH k 4=false):dh k c n s d g o=false:=by unfold dh;rw[h];rfl
theorem Py{k c n s d g o:Int}(h:iH o 1048576=false):dh k c n s d g o=false:=by unfold dh;rw[h];simp
theorem Oa{k c n s d g o:Int}(h:¬k=3)(h2:¬o=0):dh k c n s d g o=false:=by
 refine Gy fun hr=> ?_
 obtain⟨_,_,h3,_⟩:=hr
 omega
theorem Pw{c n s d g o:Int}(h:iH o 1048576=true):dh 3 c n s d g o=oz c n s d g:=by
 have:=EN h
 refine uj ?_
 rw[iK,xX];unfold bu
 omega
theorem Pv{c n s d g:Int}:dh 0 c n s d g 0=oz c n s d g:=by
 refine uj ?_
 rw[iK,xX];unfold bu
 omega
theorem Pz{k c n s d g:Int}(h:iH k 4=true)(h0:¬k=0)(h3:¬k=3):dh k c n s d g 0=rT c n s d g:=by
 have:=EN h
 refine uj ?_
 rw[iK,FJ];unfold bu
 omega
def bE(k c n s d g o:Int):Int:=k+4*c+8*n+16*s+32*d+64*g+256*o
theorem JI{x a n v:Int}(h0:0≤x)(hx:x<pw a)(hp:cz a n=true):BD x a n v=x+v*pw a:=by
 unfold BD gz
 rw[if_pos hp,Int.ediv_eq_zero_of_lt h0 hx]
 simp
theorem jO{x a n v:Int}(h0:0≤x)(hx:x<pw a)(hp:cz a n=true)(hf:v<pw n):qi x a n v=x+v*pw a:=by
 rw[BG hp (decide_eq_true hf),JI h0 hx hp]
theorem wS:pw 1=2:=by decide
theorem JJ:pw 2=4:=by decide
theorem NQ:pw 3=8:=by decide
theorem NR:pw 4=16:=by decide
theorem NT:pw 5=32:=by decide
theorem NU:pw 6=64:=by decide
theorem NV:pw 8=256:=by decide
theorem MK:pw 24=16777216:=by decide
def ND(k:Int):Int:=qi 0 0 2 k
def NE(k c:Int):Int:=qi (ND k) 2 1 c
def NF(k c n:Int):Int:=qi (NE k c) 3 1 n
def NH(k c n s:Int):Int:=qi (NF k c n) 4 1 s
def NI(k c n s d:Int):Int:=qi (NH k c n s) 5 1 d
def NJ(k c n s d g:Int):Int:=qi (NI k c n s d) 6 1 g
def PP(k c n s d g o:Int):Int:=qi (NJ k c n s d g) 8 24 o
theorem NK{k c n s d g o:Int}(h:bu k c n s d g o):
  PP k c n s d g o=bE k c n s d g o∧(0≤ND k∧ND k≤4294967295)∧(0≤NE k c∧NE k c≤4294967295)∧(0≤NF k c n∧NF k c n≤4294967295)∧(0≤NH k c n s∧NH k c n s≤4294967295)∧(0≤NI k c n s d∧NI k c n s d≤4294967295)∧(0≤NJ k c n s d g∧NJ k c n s d g≤4294967295):=by
 obtain⟨h1,h2,h3,h4,h5,h6,h7,h8,h9⟩:=h
 have e0:ND k=k:=by
  unfold ND;rw[jO (by omega) (by decide) (by decide) (by rw[JJ];omega),Pq];omega
 have e1:NE k c=k+4*c:=by
  unfold NE;rw[e0,jO (by omega) (by rw[JJ];omega) (by decide) (by rw[wS];omega),JJ];omega
 have e2:NF k c n=k+4*c+8*n:=by
  unfold NF;rw[e1,jO (by omega) (by rw[NQ];omega) (by decide) (by rw[wS];omega),NQ];omega
 have e3:NH k c n s=k+4*c+8*n+16*s:=by
  unfold NH;rw[e2,jO (by omega) (by rw[NR];omega) (by decide) (by rw[wS];omega),NR];omega
 have e4:NI k c n s d=k+4*c+8*n+16*s+32*d:=by
  unfold NI;rw[e3,jO (by omega) (by rw[NT];omega) (by decide) (by rw[wS];omega),NT];omega
 have e5:NJ k c n s d g=k+4*c+8*n+16*s+32*d+64*g:=by
  unfold NJ;rw[e4,jO (by omega) (by rw[NU];omega) (by decide) (by rw[wS];omega),NU];omega
 have e6:PP k c n s d g o=k+4*c+8*n+16*s+32*d+64*g+256*o:=by
  unfold PP;rw[e5,jO (by omega) (by rw[NV];omega) (by decide) (by rw[MK];omega),NV];omega
 unfold bE
 omega
def uK(x:Int):Int:=x%4
def uC(x:Int):Int:=x/4%2
def uN(x:Int):Int:=x/8%2
def uS(x:Int):Int:=x/16%2
def uD(x:Int):Int:=x/32%2
def uG(x:Int):Int:=x/64%2
def uO(x:Int):Int:=x/256
theorem Ni(x:Int):gz x 0 2=uK x:=by
 unfold gz uK;rw[if_pos (by decide),Pq,JJ,Int.ediv_one]
theorem Nf(x:Int):gz x 2 1=uC x:=by unfold gz uC;rw[if_pos (by decide),wS,JJ]
theorem Nj(x:Int):gz x 3 1=uN x:=by unfold gz uN;rw[if_pos (by decide),wS,NQ]
theorem Nl(x:Int):gz x 4 1=uS x:=by unfold gz uS;rw[if_pos (by decide),wS,NR]
theorem Ng(x:Int):gz x 5 1=uD x:=by unfold gz uD;rw[if_pos (by decide),wS,NT]
theorem Nh(x:Int):gz x 6 1=uG x:=by unfold gz uG;rw[if_pos (by decide),wS,NU]
theorem Nk{x:Int}(h0:0≤x)(h1:x≤4294967295):gz x 8 24=uO x:=by
 unfold gz uO;rw[if_pos (by decide),NV,MK];omega
theorem unpack_pack{k c n s d g o:Int}(h:bu k c n s d g o):
  uK (bE k c n s d g o)=k∧uC (bE k c n s d g o)=c∧uN (bE k c n s d g o)=n∧uS (bE k c n s d g o)=s∧uD (bE k c n s d g o)=d∧uG (bE k c n s d g o)=g∧uO (bE k c n s d g o)=o:=by
 obtain⟨h1,h2,h3,h4,h5,h6,h7,h8,h9⟩:=h
 unfold bE uK uC uN uS uD uG uO
 omega
theorem Bt(x:Int):bE (uK x) (uC x) (uN x) (uS x) (uD x) (uG x) (uO x)=x-128*(x/128%2):=by
 unfold bE uK uC uN uS uD uG uO
 omega
def zR(W:Int):Bool:=decide (16≤W∧W≤256)
theorem qC{W:Int}(h:zR W=true):16≤W∧W≤256:=of_decide_eq_true h
theorem tV{W:Int}(h0:16≤W)(h1:W≤256):zR W=true:=decide_eq_true ⟨h0,h1⟩
theorem CP{W:Int}(h:¬(16≤W∧W≤256)):zR W=false:=decide_eq_false h
def bX(W n:Int):Int:=if n≤W-8 then 0 else CS n (W-1)
def rE(l:Int):Int:=if l= -1 then 8 else 1
def qG(W l:Int):Int:=jU [l,W-1]
def dN(W n:Int):Int:=if zR W=true then(if n<0∨fieldsI W<n then 3 else 0) else 1
def dB(W p d:Int):Int:=if zR W=true then(if p<0∨d<0∨fieldsI W<p+d then 3 else 0) else 1
def bG(W p d:Int):Int:=if dB W p d=0 then 1+bX W (p+d) else 0
def dM(W n i:Int):Int:=if dN W n=0 then(if i<0∨n≤i then 7 else 0) else dN W n
def jM(W n i:Int):Int:=if dM W n i=0 then(if n≤W-8 then -1 else i/(W-1)) else 0
def jc(W n i:Int):Int:=if dM W n i=0 then(if n≤W-8 then 8+i else 1+i%(W-1)) else 0
theorem yD{W n:Int}(h:dN W n=0):16≤W∧W≤256∧0≤n∧n≤fieldsI W:=by
 unfold dN at h
 split at h
 ·rename_i hw
  have:=qC hw
  split at h
  ·cases h
  ·omega
 ·cases h
theorem Hl{W n:Int}(h0:16≤W)(h1:W≤256)(h2:0≤n)(h3:n≤fieldsI W):dN W n=0:=by
 unfold dN;rw[if_pos (tV h0 h1),if_neg (by omega)]
theorem qm{W p d:Int}(h:dB W p d=0):16≤W∧W≤256∧0≤p∧0≤d∧p+d≤fieldsI W:=by
 unfold dB at h
 split at h
 ·rename_i hw
  have:=qC hw
  split at h
  ·cases h
  ·omega
 ·cases h
theorem ym{W n i:Int}(h:dM W n i=0):dN W n=0∧0≤i∧i<n:=by
 unfold dM at h
 split at h
 ·split at h
  ·cases h
  ·exact⟨by assumption,by omega,by omega⟩
 ·exact absurd h (by assumption)
theorem yl{W n i:Int}(h:dN W n=0)(h0:0≤i)(h1:i<n):dM W n i=0:=by
 unfold dM;rw[if_pos h,if_neg (by omega)]
theorem lD{W n:Int}(h0:16≤W)(h1:W≤256)(h2:W-8<n)(h3:n≤fieldsI W):
  1≤bX W n∧bX W n≤W-8∧n≤bX W n*(W-1)∧bX W n*(W-1)<n+W-1:=by
 have e:bX W n=CS n (W-1):=by unfold bX;rw[if_neg (by omega)]
 have u:=Ep (a:=n) (b:=W-1) (by omega) (by omega)
 rw[e]
 rw[Int.mul_comm (W-1)] at u
 refine⟨?_,?_,u.2.2.1,by omega⟩
 ·by_cases h:1≤CS n (W-1)
  ·exact h
  ·have:CS n (W-1)=0:=by omega
   rw[this,Int.zero_mul] at u
   omega
 ·by_cases h:CS n (W-1)≤W-8
  ·exact h
  ·have h4:(W-8+1)*(W-1)≤CS n (W-1)*(W-1):=Int.mul_le_mul_of_nonneg_right (by omega) (by omega)
   rw[Int.add_mul] at h4
   have:(W-8)*(W-1)=fieldsI W:=rfl
   omega
theorem ji{W n:Int}(h:n≤W-8):bX W n=0:=by unfold bX;rw[if_pos h]
theorem kI{W n:Int}(h0:16≤W)(h1:W≤256)(h3:n≤fieldsI W):0≤bX W n∧bX W n≤W-8:=by
 by_cases h:n≤W-8
 ·rw[ji h];omega
 ·have:=lD h0 h1 (by omega) h3;omega
theorem Lj{m a b:Int}(hm:1≤m)(h:a<b):a*m+m≤b*m:=by
 have:(a+1)*m≤b*m:=Int.mul_le_mul_of_nonneg_right (by omega) (by omega)
 rw[Int.add_mul] at this
 omega
theorem FE{W l:Int}(h0:16≤W)(h1:W≤256)(h:l≤0):qG W l=0:=by
 unfold qG
 rw[Bg,MW h,gN (by omega) (by omega),kT (by omega) (by omega) (by omega) (by omega),Int.zero_mul]
 rfl
theorem Ip{W l:Int}(h0:16≤W)(h1:W≤256)(h:0≤l)(h2:l≤256):qG W l=l*(W-1):=by
 unfold qG
 have:=xW h (show 0≤W-1 by omega) h2 (show W-1≤255 by omega)
 exact jY (by omega) (by omega) (by omega) (by omega) (by omega)
theorem LG{m i:Int}(hm:1≤m)(hi:0≤i):i=(i/m)*m+i%m∧0≤i%m∧i%m<m∧0≤i/m:=
 ⟨by have:=Int.emod_add_mul_ediv i m;rw[Int.mul_comm] at this;omega,Int.emod_nonneg _ (by omega),Int.emod_lt_of_pos _ (by omega),Int.ediv_nonneg hi (by omega)⟩
theorem sG{W n i:Int}(h:dM W n i=0)(hn:n≤W-8):jM W n i= -1∧jc W n i=8+i:=by
 unfold jM jc;rw[if_pos h,if_pos hn,if_pos h,if_pos hn];exact⟨rfl,rfl⟩
theorem yn{W n i:Int}(h:dM W n i=0)(hn:W-8<n):jM W n i=i/(W-1)∧jc W n i=1+i%(W-1):=by
 unfold jM jc;rw[if_pos h,if_neg (by omega),if_pos h,if_neg (by omega)];exact⟨rfl,rfl⟩
theorem sH{W n i:Int}(h:dM W n i≠0):jM W n i=0∧jc W n i=0:=by
 unfold jM jc;rw[if_neg h,if_neg h];exact⟨rfl,rfl⟩
end Go.Proofs.YtofhdfjkhfkhiaaGreat.Pk
