/-
  Texts laid together: Base, NumMath, PackFn, TagMath, ShapeMath.
-/
import Derived.WalkKit
import Derived.WalkSpells
import Derived.WalkLawsBesides
import Derived.Deep.QuietTactic
import Derived.BigQuiet
import Derived.Lib.Hide
import Derived.Laws.NewBlocks
import Derived.OneCell
import Derived.Laws.MakeOwn
import Derived.Laws.OwnMore
import Derived.Test.YtjmifnljckmimaaGreatProg
import Derived.IntWalk
namespace Go.Proofs.YtjmifnljckmimaaGreat.Pk
open Lib (hid)
open Go.RowKit
set_option linter.unusedVariables false
set_option linter.unusedSimpArgs false
def nth(zs:List Int)(i:Nat):Int:=zs.getD i 0
def Row(w:World)(k:IntKind)(a:Option Addr)(zs:List Int):Prop:=
 ∀i,i<zs.length→∃b off,a=some ⟨b,off,none⟩∧b<w.heap.size∧w.cell? ⟨b,off+i,none⟩=some (.int k (nth zs i))
theorem Row.nil(w:World)(k:IntKind)(a:Option Addr):Row w k a []:=fun _ h=>absurd h (Nat.not_lt_zero _)
theorem Row.below{w w':World}{k:IntKind}{a:Option Addr}{zs:List Int}{B:Nat}(h:Row w k a zs)(hb:Below B w w')(hB:w.heap.size≤B):Row w' k a zs:=by
 intro i hi
 obtain⟨b,off,ha,hlt,hc⟩:=h i hi
 exact⟨b,off,ha,Nat.lt_of_lt_of_le hlt hb.size,by rw[hb.cell (p:=⟨b,off+i,none⟩) (Nat.lt_of_lt_of_le hlt hB)];exact hc⟩
theorem Row.drewN{w:World}{k:IntKind}{a:Option Addr}{zs:List Int}(h:Row w k a zs)(n:Nat):Row (w.drewN n) k a zs:=by
 intro i hi
 obtain⟨b,off,ha,hlt,hc⟩:=h i hi
 exact⟨b,off,ha,hlt,hc⟩
theorem Row.alloc{w:World}{k:IntKind}{a:Option Addr}{zs:List Int}(h:Row w k a zs)(o:Obj):Row (w.alloc o) k a zs:=
 h.below ((Below.refl w.heap.size w).alloc (Nat.le_refl _) o) (Nat.le_refl _)
theorem Row.later{w w':World}{k:IntKind}{a:Option Addr}{zs:List Int}(h:Row w k a zs)(hb:Below w.heap.size w w'):Row w' k a zs:=h.below hb (Nat.le_refl _)
theorem below_step{w w1 w2:World}(h:Below w.heap.size w w1)(h2:Below w1.heap.size w1 w2):Below w.heap.size w w2:=h.trans (h2.mono h.size)
theorem below_new(w:World)(o:Obj):Below w.heap.size w (w.alloc o):=(Below.refl _ _).alloc (Nat.le_refl _) o
theorem jH{w w1:World}(h:Below w.heap.size w w1){p:Addr}(hp:w.heap.size≤p.block)(u:Value):Below w.heap.size w (w1.setCell p u):=h.setCell hp u
theorem cell_block{w:World}{a:Addr}{v:Value}(h:w.cell? a=some v):a.block<w.heap.size:=by
 by_cases hlt:a.block<w.heap.size
 ·exact hlt
 ·unfold World.cell? at h
  rw[Array.getElem?_eq_none (by omega)] at h
  cases h
theorem cell_none{w:World}{a:Addr}{v:Value}(h:w.cell? a=some v):a.spot=none:=by
 unfold World.cell? at h
 split at h
 ·split at h
  ·cases h
  ·rename_i hs
   cases hsp:a.spot with
   |none=>rfl
   |some k=>rw[hsp] at hs;exact absurd rfl hs
 ·cases h
theorem Dt{W:World}{k:IntKind}{x:Addr}{len cap:Nat}{zs:List Int}(hl:len≤cap)(hm:cap≤maxLen)(hz:zs.length=cap)
  (hcell:∀i,i<zs.length→W.cell? (x.add i)=some (.int k (zs.getD i 0))) (hwz:∀n∈zs,(Lit.int k n).wf=true):
  ∃es:List Int,len=es.length∧Row W k (some x) es∧(∀n∈es,(Lit.int k n).wf=true)∧len≤maxLen:=by
 refine⟨zs.take len,by simp;omega,?_,fun n hn=>hwz n (List.mem_of_mem_take hn),Nat.le_trans hl hm⟩
 intro i hi
 have hi1:i<len:=by simp at hi;omega
 obtain⟨b,off,spot⟩:=x
 have hs:=cell_none (hcell 0 (by omega))
 simp[Addr.add] at hs
 subst hs
 have hadd:(⟨b,off,none⟩:Addr).add i=⟨b,off+i,none⟩:=by
  unfold Addr.add
  by_cases h0:i=0
  ·subst h0;rfl
  ·simp[h0]
 have hc:=hcell i (by omega)
 rw[hadd] at hc
 refine⟨b,off,rfl,cell_block hc,?_⟩
 rw[hc]
 unfold nth
 simp[List.getD,hi1]
def Drw(w w':World):Prop:=∃m,w'=w.drewN m
theorem Drw.refl(w:World):Drw w w:=⟨0,rfl⟩
theorem Drw.step{w w':World}(h:Drw w w')(n:Nat):Drw w (w'.drewN n):=by
 obtain⟨m,rfl⟩:=h;exact⟨m+n,World.drewN_drewN _ _ _⟩
theorem Drw.size{w w':World}(h:Drw w w'):w'.heap.size=w.heap.size:=by obtain⟨m,rfl⟩:=h;rfl
theorem Drw.below{w w':World}(h:Drw w w')(B:Nat):Below B w w':=by obtain⟨m,rfl⟩:=h;exact⟨rfl,rfl,rfl,Nat.le_refl _,fun _ _=>rfl⟩
theorem Drw.new{w w':World}(h:Drw w w'):Below w.heap.size w w':=h.below _
theorem Row.drw{w w':World}{k:IntKind}{a:Option Addr}{zs:List Int}(h:Row w k a zs)(d:Drw w w'):Row w' k a zs:=by
 obtain⟨m,rfl⟩:=d;exact h.drewN m
theorem aH{a b:Bool}(h:a=b):Ending.returned (.bool a)=.returned (.bool b):=by rw[h]
theorem bX{k:IntKind}{a b:Int}(h:a=b):Ending.returned (.int k a)=.returned (.int k b):=by rw[h]
theorem Dm{P:Program}{f:FuncId}{args:Array Value}{w:World}{n:Nat}{v:Value}
  (h:Calls P f args (w.drewN n) fun e w'=>e=.returned v∧w.drewN n=w'):Calls P f args (w.drewN n) fun e w''=>e=.returned v∧∃m,w''=w.drewN m:=
 h.mono fun _ _ ⟨he,hm⟩=>⟨he,n,hm.symm⟩
theorem Row.kI{w:World}{B:Nat}{e:TypeId}{k:IntKind}{v:Value}{zs:List Int}(h:w.ownsRow B e 1 v zs.length (zs.map (Value.int k))):
  ∃a cap,v=.slice a zs.length cap∧Row w k a zs:=by
 rcases h.2 with⟨h1,h2⟩|⟨g,cap,cur,h1,_,hg,_⟩
 ·refine⟨none,0,by rw[h1,h2],fun i hi=> ?_⟩
  omega
 ·refine⟨some ⟨g,0,none⟩,cap,h1,fun i hi=>⟨g,0,rfl,?_,?_⟩⟩
  ·by_cases hlt:g<w.heap.size
   ·exact hlt
   ·rw[Array.getElem?_eq_none (by omega)] at hg
    cases hg
  ·subst h1
   have hc:=h.cellAt i (by omega)
   rw[Nat.zero_add,hc,List.getElem?_map]
   show Option.map (Value.int k) zs[i]? =some (Value.int k (zs.getD i 0))
   simp[List.getD,hi]
theorem bf{w:World}{B:Nat}{e:TypeId}{size:Nat}{v:Value}{n:Nat}{xs:List Value}(h:w.ownsRow B e size v n xs):∀k,v.ownBlock=some k→B≤k:=by
 intro k hk
 rcases h.2 with⟨h1,_⟩|⟨g,cap,cur,h1,hb,_⟩
 ·subst h1;cases hk
 ·subst h1
  simp[Value.ownBlock] at hk
  omega
theorem Row.lit(w:World)(k:IntKind)(zs:List Int)(t:TypeId):Row (w.alloc (.cells (zs.map (Value.int k)).toArray t)) k (some ⟨w.heap.size,0,none⟩) zs:=by
 intro i hi
 refine⟨w.heap.size,0,rfl,by simp,?_⟩
 rw[Nat.zero_add,World.cell?_alloc_at _ _ _ _ rfl]
 show(zs.map (Value.int k)).toArray[i]? =some (Value.int k (zs.getD i 0))
 simp[List.getD,hi]
theorem Gp{B:Nat}{W w1:World}(hb:Below B W w1):(∀b o,b<B→w1.cell? ⟨b,o,none⟩=W.cell? ⟨b,o,none⟩)∧(∀b o,b<B→w1.frozen? ⟨b,o,none⟩=W.frozen? ⟨b,o,none⟩):=
 ⟨fun b o h=>hb.cell (p:=⟨b,o,none⟩) h,fun b o h=>hb.frozen (p:=⟨b,o,none⟩) h⟩
structure Touch (X:Nat→Prop) (w w':World):Prop where
 os:w'.os=w.os
 tape:w'.tape=w.tape
 output:w'.output=w.output
 size:w.heap.size≤w'.heap.size
 block:∀k,k<w.heap.size→¬X k→w'.heap[k]? =w.heap[k]?
theorem Touch.refl(X:Nat→Prop)(w:World):Touch X w w:=⟨rfl,rfl,rfl,Nat.le_refl _,fun _ _ _=>rfl⟩
theorem Touch.trans{X:Nat→Prop}{a b c:World}(h:Touch X a b)(k:Touch X b c):Touch X a c:=
 ⟨k.os.trans h.os,k.tape.trans h.tape,k.output.trans h.output,Nat.le_trans h.size k.size,fun i hi hx=>(k.block i (Nat.lt_of_lt_of_le hi h.size) hx).trans (h.block i hi hx)⟩
theorem Touch.mono{X Y:Nat→Prop}{w w':World}(h:Touch X w w')(hXY:∀k,k<w.heap.size→X k→Y k):Touch Y w w':=
 ⟨h.os,h.tape,h.output,h.size,fun k hk hy=>h.block k hk fun hx=>hy (hXY k hk hx)⟩
theorem Touch.of_below{X:Nat→Prop}{w w':World}(h:Below w.heap.size w w'):Touch X w w':=⟨h.os,h.tape,h.output,h.size,fun k hk _=>h.block k hk⟩
theorem Touch.below{X:Nat→Prop}{w w':World}{B:Nat}(h:Touch X w w')(hX:∀k,X k→B≤k)(hB:B≤w.heap.size):Below B w w':=
 ⟨h.os,h.tape,h.output,h.size,fun k hk=>h.block k (by omega) fun hx=>by have:=hX k hx;omega⟩
theorem Touch.alloc{X:Nat→Prop}{a w:World}(h:Touch X a w)(o:Obj):Touch X a (w.alloc o):=
 ⟨h.os,h.tape,h.output,by have:=h.size;simp;omega,fun k hk hx=>(Below.heap_alloc _ _ _ (Nat.lt_of_lt_of_le hk h.size)).trans (h.block k hk hx)⟩
theorem Touch.setCell{X:Nat→Prop}{a w:World}(h:Touch X a w){p:Addr}(hp:p.block<a.heap.size→X p.block)(u:Value):Touch X a (w.setCell p u):=
 ⟨h.os,h.tape,h.output,by have:=h.size;simpa[World.setCell] using this,fun k hk hx=>(Below.heap_setCell _ _ _ _ (fun e=>by subst e;exact hx (hp hk))).trans (h.block k hk hx)⟩
theorem Touch.drewN{X:Nat→Prop}{a w:World}(h:Touch X a w)(n:Nat):Touch X a (w.drewN n):=⟨h.os,h.tape,h.output,h.size,h.block⟩
theorem Touch.drew{X:Nat→Prop}{a w:World}(h:Touch X a w):Touch X a w.drew:=⟨h.os,h.tape,h.output,h.size,h.block⟩
theorem Touch.cell{X:Nat→Prop}{w w':World}(h:Touch X w w'){p:Addr}(hp:p.block<w.heap.size)(hx:¬X p.block):w'.cell? p=w.cell? p:=World.cell?_of_block (w:=w) (h.block p.block hp hx)
theorem Touch.qf{X:Nat→Prop}{w w':World}(h:Touch X w.drew w'):Touch X w w':=⟨h.os,h.tape,h.output,h.size,h.block⟩
theorem Touch.Hw{X:Nat→Prop}{w w':World}{n:Nat}(h:Touch X (w.drewN n) w'):Touch X w w':=⟨h.os,h.tape,h.output,h.size,h.block⟩
def Blk(w:World)(b:Nat)(cs:Array Value)(t:TypeId):Prop:=w.heap[b]? =some (.cells cs t (0,0))
theorem Blk.lt{w:World}{b:Nat}{cs:Array Value}{t:TypeId}(h:Blk w b cs t):b<w.heap.size:=lt_of_block h
theorem Blk.cell{w:World}{b:Nat}{cs:Array Value}{t:TypeId}(h:Blk w b cs t)(i:Nat){v:Value}(hv:cs[i]? =some v):w.cell? ⟨b,i,none⟩=some v:=by
 unfold Blk at h
 simp[World.cell?,h,hv]
theorem Blk.free{w:World}{b:Nat}{cs:Array Value}{t:TypeId}(h:Blk w b cs t)(i:Nat):w.frozen? ⟨b,i,none⟩=false:=by
 unfold Blk at h
 simp[World.frozen?,h]
theorem Blk.new(w:World)(cs:Array Value)(t:TypeId):Blk (w.alloc (.cells cs t)) w.heap.size cs t:=by
 show(w.heap.push _)[w.heap.size]? =_
 simp
theorem Blk.alloc{w:World}{b:Nat}{cs:Array Value}{t:TypeId}(h:Blk w b cs t)(o:Obj):Blk (w.alloc o) b cs t:=(Below.heap_alloc _ _ _ h.lt).trans h
theorem Blk.drewN{w:World}{b:Nat}{cs:Array Value}{t:TypeId}(h:Blk w b cs t)(n:Nat):Blk (w.drewN n) b cs t:=h
theorem Blk.drew{w:World}{b:Nat}{cs:Array Value}{t:TypeId}(h:Blk w b cs t):Blk w.drew b cs t:=h
theorem Blk.other{w:World}{b:Nat}{cs:Array Value}{t:TypeId}(h:Blk w b cs t){p:Addr}(hp:p.block≠b)(v:Value):Blk (w.setCell p v) b cs t:=(Below.heap_setCell _ _ _ _ (Ne.symm hp)).trans h
theorem Blk.set{w:World}{b:Nat}{cs:Array Value}{t:TypeId}(h:Blk w b cs t)(i:Nat)(v:Value):Blk (w.setCell ⟨b,i,none⟩ v) b (cs.setIfInBounds i v) t:=by
 have hlt:=h.lt
 unfold Blk at h
 have h':w.heap[b]=.cells cs t (0,0):=by simpa[Array.getElem?_eq_getElem hlt] using h
 show(w.heap.modify b _)[b]? =_
 rw[Array.getElem?_eq_getElem (by simpa using hlt),Array.getElem_modify_self,h']
 rfl
theorem Blk.put{w:World}{b:Nat}{cs cs':Array Value}{t:TypeId}(h:Blk w b cs t)(i:Nat)(v:Value)(e:cs.setIfInBounds i v=cs'):Blk (w.setCell ⟨b,i,none⟩ v) b cs' t:=e▸h.set i v
theorem Blk.touch{X:Nat→Prop}{w w':World}{b:Nat}{cs:Array Value}{t:TypeId}(h:Blk w b cs t)(k:Touch X w w')(hx:¬X b):Blk w' b cs t:=(k.block b h.lt hx).trans h
theorem Blk.later{w w':World}{b:Nat}{cs:Array Value}{t:TypeId}(h:Blk w b cs t)(k:Below w.heap.size w w'):Blk w' b cs t:=(k.block b h.lt).trans h
def iW(X:Nat→Prop)(a:Option Addr)(zs:List Int):Prop:=0<zs.length→∀b off,a=some ⟨b,off,none⟩→¬X b
theorem Row.touch{X:Nat→Prop}{w w':World}{k:IntKind}{a:Option Addr}{zs:List Int}(h:Row w k a zs)(t:Touch X w w')(hx:iW X a zs):Row w' k a zs:=by
 intro i hi
 obtain⟨b,off,ha,hlt,hc⟩:=h i hi
 exact⟨b,off,ha,Nat.lt_of_lt_of_le hlt t.size,(t.cell (p:=⟨b,off+i,none⟩) hlt (hx (by omega) b off ha)).trans hc⟩
theorem Row.out{w:World}{k:IntKind}{a:Option Addr}{zs:List Int}(h:Row w k a zs){X:Nat→Prop}(hX:∀k,X k→w.heap.size≤k):iW X a zs:=by
 intro h0 b off ha hx
 obtain⟨b',off',ha',hlt,_⟩:=h 0 h0
 rw[ha] at ha'
 cases ha'
 have:=hX b hx
 omega
def ek(f:Nat→Value)(n:Nat):Array Value:=((List.range n).map f).toArray
theorem JX{f:Nat→Value}{n i:Nat}(h:i<n):(ek f n)[i]? =some (f i):=by simp[ek,h]
theorem qm(f:Nat→Value)(n i:Nat)(v:Value):(ek f n).setIfInBounds i v=ek (fun j=>if j=i then v else f j) n:=by
 unfold ek
 apply Array.toList_inj.1
 rw[Array.toList_setIfInBounds]
 apply List.ext_getElem
 ·simp
 ·intro j h1 h2
  have hj:j<n:=by simpa using h2
  simp[List.getElem_set]
  by_cases e:i=j
  ·subst e;simp
  ·have:¬j=i:=fun h=>e h.symm
   simp[e,this]
theorem pQ{f g:Nat→Value}{n:Nat}(h:∀i,i<n→f i=g i):ek f n=ek g n:=by
 unfold ek
 congr 1
 exact List.map_congr_left (fun i hi=>h i (List.mem_range.1 hi))
theorem CG(z:Value)(hz:z.cells= #[z])(n:Nat):madeCells z.cells (n*1)=ek (fun _=>z) n:=by
 unfold madeCells ek
 have e:∀x:Nat,z.cells[x%z.cells.size]! =z:=by
  intro x
  rw[hz]
  simp[Nat.mod_one]
 simp only[e]
 apply Array.ext<;>simp
theorem Blk.arr{w:World}{q:Nat}{f:Nat→Value}{n:Nat}{t:TypeId}(h:Blk w q (ek f n) t){i:Nat}(hi:i<n):w.cell? ⟨q,i,none⟩=some (f i):=h.cell i (JX hi)
def iA(w:World)(k:IntKind)(a:Option Addr)(zs:List Int):Prop:=
 zs.length=0∨∃b cs t,a=some ⟨b,0,none⟩∧Blk w b cs t∧∀i,i<zs.length→cs[i]? =some (.int k (nth zs i))
theorem iA.row{w:World}{k:IntKind}{a:Option Addr}{zs:List Int}(h:iA w k a zs):Row w k a zs:=by
 intro i hi
 rcases h with h|⟨b,cs,t,rfl,hb,hc⟩
 ·omega
 ·exact⟨b,0,rfl,hb.lt,by rw[Nat.zero_add];exact hb.cell i (hc i hi)⟩
theorem iA.touch{X:Nat→Prop}{w w':World}{k:IntKind}{a:Option Addr}{zs:List Int}(h:iA w k a zs)(t:Touch X w w')(hx:iW X a zs):iA w' k a zs:=by
 rcases h with h|⟨b,cs,t',rfl,hk,hc⟩
 ·exact .inl h
 ·by_cases h0:zs.length=0
  ·exact .inl h0
  ·exact .inr ⟨b,cs,t',rfl,hk.touch t (hx (by omega) b 0 rfl),hc⟩
theorem iA.set{w:World}{k:IntKind}{zs:List Int}{b i:Nat}(h:iA w k (some ⟨b,0,none⟩) zs)(hi:i<zs.length)(v:Int):iA (w.setCell ⟨b,i,none⟩ (.int k v)) k (some ⟨b,0,none⟩) (zs.set i v):=by
 rcases h with h|⟨b',cs,t,e,hk,hc⟩
 ·omega
 ·cases e
  refine .inr ⟨b,_,t,rfl,hk.set i (.int k v),fun j hj=> ?_⟩
  have hj':j<zs.length:=by simpa using hj
  have hcj:=hc j hj'
  have hjs:j<cs.size:=(Array.getElem?_eq_some_iff.1 hcj).1
  by_cases e:j=i
  ·subst e
   rw[Array.getElem?_setIfInBounds_self_of_lt hjs]
   unfold nth;simp[List.getD,hi]
  ·rw[Array.getElem?_setIfInBounds_ne (fun h=>e h.symm),hcj]
   unfold nth
   rw[List.getD_eq_getElem?_getD,List.getD_eq_getElem?_getD,List.getElem?_set_ne (fun h=>e h.symm)]
theorem iA.at{w:World}{k:IntKind}{a:Option Addr}{zs:List Int}(h:iA w k a zs){i:Nat}(hi:i<zs.length):∃b,a=some ⟨b,0,none⟩∧b<w.heap.size∧w.cell? ⟨b,i,none⟩=some (.int k (nth zs i))∧w.frozen? ⟨b,i,none⟩=false:=by
 rcases h with h|⟨b,cs,t,rfl,hk,hc⟩
 ·omega
 ·exact⟨b,rfl,hk.lt,hk.cell i (hc i hi),hk.free i⟩
theorem iA.kI{w:World}{B:Nat}{e:TypeId}{k:IntKind}{v:Value}{zs:List Int}(h:w.ownsRow B e 1 v zs.length (zs.map (Value.int k))):∃a cap,v=.slice a zs.length cap∧iA w k a zs:=by
 rcases h.2 with⟨h1,h2⟩|⟨g,cap,cur,h1,_,hg,_,_,_,ht⟩
 ·exact⟨none,0,by rw[h1,h2],.inl h2⟩
 ·refine⟨some ⟨g,0,none⟩,cap,h1,.inr ⟨g,cur,e,rfl,hg,fun i hi=> ?_⟩⟩
  have:(cur.toList.take (zs.length*1))[i]? =(zs.map (Value.int k))[i]? :=by rw[ht]
  rw[List.getElem?_take,if_pos (by omega),List.getElem?_map] at this
  rw[←Array.getElem?_toList,this]
  unfold nth
  simp[List.getD,hi]
set_option maxHeartbeats 600000 in
theorem LV(zs:List Int)(a b:Option Addr)(n ca cb:Nat)(w:World)(hn:zs.length=n)(ha:Row w .u32 a zs)(hb:Row w .u32 b zs)(hm:n≤maxLen):
  Calls Tryz.prog 25 #[.slice a n ca,.slice b n cb] w fun e w'=>e=.returned (.bool true)∧Drw w w':=by
 unfold maxLen at hm
 have HN:=hid hn
 have HA:=hid ha
 have HB:=hid hb
 clear hn ha hb
 go_enter Tryz.func25,Tryz.ntmps25
 go_wp2
 go_loopw [5] (fun i wr=>∃k:Nat,k≤n∧i=.int .i64 k∧Drw w wr) (fun i _=>n-(intOf i).toNat)
 case atStart=>exact⟨0,Nat.zero_le _,rfl,Drw.refl _⟩
 case round=>
  obtain⟨k,hk,rfl,hd⟩:=hrel
  by_cases hlt:k<n
  ·obtain⟨b1,o1,rfl,hb1,hc1⟩:=(HA.out.drw hd) k (by rw[HN.out];exact hlt)
   obtain⟨b2,o2,rfl,hb2,hc2⟩:=(HB.out.drw hd) k (by rw[HN.out];exact hlt)
   have i0:(0:Int)≤(k:Int):=by omega
   have i1:(k:Int)<(n:Int):=by omega
   have HD:=hid hd
   clear hd
   go_wp2_with fail
   go_quiet (fail)
   have hd:Drw w (wr.drewN nq):=HD.out.step _
   clear HD
   generalize wr.drewN nq=w2 at*
   go_wp2
   go_roundw
   case rel=>exact⟨k+1,by omega,by go_num,hd⟩
   case measure=>simp[intOf];omega
  ·go_wp2
   go_ret
   exact⟨rfl,hd⟩
def jS(n lo hi:Int):Int:=if hi<n then hi else if n<lo then lo else n
def cnt(n:Int):Int:=jS n 0 1125899906842624
def JC(n:Int):Int:=if cnt n=0 then 1 else cnt n
def iN(a b:Int):Int:=if 0<b∧1125899906842624/b<a then 1125899906842624 else a*b
def Kk(a b:Int):Int:=cnt a/JC b
def Qz(a b:Int):Int:=(cnt a+JC b-1)/JC b
theorem eQ(n:Int):0≤cnt n∧cnt n≤1125899906842624:=by
 unfold cnt jS;split
 ·omega
 ·split<;>omega
theorem ib{n:Int}(h0:0≤n)(h1:n≤1125899906842624):cnt n=n:=by
 unfold cnt jS;rw[if_neg (by omega),if_neg (by omega)]
theorem OY{n:Int}(h1:n≤0):cnt n=0:=by
 unfold cnt jS;rw[if_neg (by omega)];split
 ·rfl
 ·omega
theorem oF(n:Int):cnt n=max 0 (min n 1125899906842624):=by
 unfold cnt jS;split
 ·omega
 ·split<;>omega
theorem Kc(n:Int):1≤JC n∧JC n≤1125899906842624:=by
 have:=eQ n
 unfold JC;split<;>omega
theorem ML(n:Int):JC n=max (cnt n) 1:=by
 have:=eQ n
 unfold JC;split<;>omega
theorem lK{a b:Int}(ha:0≤a)(hb:0≤b)(ha2:a≤1125899906842624)(hb2:b≤1125899906842624):iN a b=min 1125899906842624 (a*b):=by
 unfold iN
 by_cases h:0<b∧1125899906842624/b<a
 ·rw[if_pos h]
  have h1:=Int.emod_add_mul_ediv 1125899906842624 b
  have h2:=Int.emod_lt_of_pos 1125899906842624 h.1
  have h3:b*(1125899906842624/b+1)≤b*a:=Int.mul_le_mul_of_nonneg_left (by omega) hb
  rw[Int.mul_add,Int.mul_comm b a] at h3
  omega
 ·rw[if_neg h]
  by_cases hb0:b=0
  ·subst hb0;rw[Int.mul_zero];decide
  ·have hp:0<b:=by omega
   have h4:a≤1125899906842624/b:=by
    by_cases h5:1125899906842624/b<a
    ·exact absurd ⟨hp,h5⟩ h
    ·omega
   have h5:b*a≤b*(1125899906842624/b):=Int.mul_le_mul_of_nonneg_left h4 hb
   have h6:=Int.mul_ediv_self_le (x:=1125899906842624) (k:=b) (by omega)
   rw[Int.mul_comm b a] at h5
   omega
theorem Mg{a b:Int}(ha:0≤a)(hb:0≤b)(ha2:a≤1125899906842624)(hb2:b≤1125899906842624):0≤iN a b∧iN a b≤1125899906842624:=by
 rw[lK ha hb ha2 hb2]
 have:=Int.mul_nonneg ha hb
 omega
def iB(l:List Int):Int:=l.foldl (fun s n=>cnt (s+cnt n)) 0
def kz(l:List Int):Int:=l.foldl (fun s n=>iN s (cnt n)) 1
def pu(l:List Int)(k:Nat):Int:=iB (l.take k)
def pI(l:List Int)(k:Nat):Int:=kz (l.take k)
theorem rA{l:List Int}{k:Nat}(h:k<l.length):l.take (k+1)=l.take k++[nth l k]:=by
 rw[List.take_succ_eq_append_getElem h];unfold nth;simp[List.getD,h]
theorem uU{l:List Int}{k:Nat}(h:k<l.length):pu l (k+1)=cnt (pu l k+cnt (nth l k)):=by
 unfold pu iB;rw[rA h,List.foldl_append];rfl
theorem yu(l:List Int):pu l l.length=iB l:=by unfold pu;rw[List.take_length]
theorem vR{l:List Int}{k:Nat}(h:k<l.length):pI l (k+1)=iN (pI l k) (cnt (nth l k)):=by
 unfold pI kz;rw[rA h,List.foldl_append];rfl
theorem yO(l:List Int):pI l l.length=kz l:=by unfold pI;rw[List.take_length]
def ru:List Int→Int
 |[]=>0
 |n::l=>cnt n+ru l
def lD:List Int→Int
 |[]=>1
 |n::l=>cnt n*lD l
theorem Hf(l:List Int):0≤ru l:=by
 induction l with
 |nil=>exact Int.le_refl _
 |cons n l ih=>have:=eQ n;show 0≤cnt n+ru l;omega
theorem Dc(l:List Int):0≤lD l:=by
 induction l with
 |nil=>decide
 |cons n l ih=>exact Int.mul_nonneg (eQ n).1 ih
theorem DK(l m:List Int):ru (l++m)=ru l+ru m:=by
 induction l with
 |nil=>show ru m=0+ru m;omega
 |cons n l ih=>show cnt n+ru (l++m)=cnt n+ru l+ru m;rw[ih];omega
theorem Aq(l m:List Int):lD (l++m)=lD l*lD m:=by
 induction l with
 |nil=>show lD m=1*lD m;omega
 |cons n l ih=>show cnt n*lD (l++m)=cnt n*lD l*lD m;rw[ih,Int.mul_assoc]
theorem LZ(n:Int):ru [n]=cnt n:=by show cnt n+0=cnt n;omega
theorem Ja(n:Int):lD [n]=cnt n:=by show cnt n*1=cnt n;omega
theorem JR(l:List Int):iB l=min 1125899906842624 (ru l):=by
 have h:∀k,k≤l.length→pu l k=min 1125899906842624 (ru (l.take k)):=by
  intro k
  induction k with
  |zero=>intro _;rfl
  |succ k ih=>
   intro hk
   rw[uU hk,ih (by omega),rA hk,DK,LZ,oF]
   have h1:=Hf (l.take k)
   have h2:=eQ (nth l k)
   omega
 have:=h l.length (Nat.le_refl _)
 rwa[yu,List.take_length] at this
theorem Gm(l:List Int):0≤iB l∧iB l≤1125899906842624:=by
 rw[JR];have:=Hf l;omega
theorem JS(l:List Int)(k:Nat):0≤pu l k∧pu l k≤1125899906842624:=Gm _
theorem min_mul{p c:Int}(hp:0≤p)(hc:0≤c):min 1125899906842624 (min 1125899906842624 p*c)=min 1125899906842624 (p*c):=by
 by_cases h:p≤1125899906842624
 ·rw[show min 1125899906842624 p=p by omega]
 ·rw[show min 1125899906842624 p=1125899906842624 by omega]
  by_cases h0:c=0
  ·subst h0;rw[Int.mul_zero,Int.mul_zero]
  ·have h1:1125899906842624*1≤1125899906842624*c:=Int.mul_le_mul_of_nonneg_left (by omega) (by decide)
   have h2:1125899906842624*c≤p*c:=Int.mul_le_mul_of_nonneg_right (by omega) hc
   omega
theorem Fg(l:List Int):∀k,k≤l.length→pI l k=min 1125899906842624 (lD (l.take k)):=by
 intro k
 induction k with
 |zero=>intro _;rfl
 |succ k ih=>
  intro hk
  have h1:=Dc (l.take k)
  have h2:=eQ (nth l k)
  rw[vR hk,ih (by omega),rA hk,Aq,Ja,lK (by omega) h2.1 (by omega) h2.2,min_mul h1 h2.1]
theorem IU(l:List Int):kz l=min 1125899906842624 (lD l):=by
 have:=Fg l l.length (Nat.le_refl _)
 rwa[yO,List.take_length] at this
theorem Nv(l:List Int):0≤kz l∧kz l≤1125899906842624:=by
 rw[IU];have:=Dc l;omega
theorem Lb(l:List Int)(k:Nat):0≤pI l k∧pI l k≤1125899906842624:=Nv _
theorem Ie(l:List Int)(n:Int):iB (l++[n])=cnt (iB l+cnt n):=by
 unfold iB;rw[List.foldl_append];rfl
theorem BA(a b:Int):iB [a,b]=cnt (cnt a+cnt b):=by
 show cnt (cnt (0+cnt a)+cnt b)=_
 rw[Int.zero_add,ib (eQ a).1 (eQ a).2]
theorem CP(a b:Int):kz [a,b]=iN (cnt a) (cnt b):=by
 show iN (iN 1 (cnt a)) (cnt b)=_
 rw[lK (by decide) (eQ a).1 (by decide) (eQ a).2,Int.one_mul]
 have:=eQ a
 rw[show min 1125899906842624 (cnt a)=cnt a by omega]
structure May (N W R K:Int):Prop where
 n0:1≤N
 n1:N≤1048576
 w0:16≤W
 w1:W≤256
 r0:1≤R
 r1:R≤4096
 k0:1≤K
 k1:K≤65536
 nw:N*W≤4194304
theorem Kg{n lo hi:Int}(h0:lo≤n)(h1:n≤hi):jS n lo hi=n:=by
 unfold jS;rw[if_neg (by omega),if_neg (by omega)]
theorem lQ{a b:Int}(ha:0≤a)(hb:0≤b)(h:a+b≤1125899906842624):iB [a,b]=a+b:=by
 rw[BA,ib ha (by omega),ib hb (by omega),ib (by omega) h]
theorem MI{a b c:Int}(ha:0≤a)(hb:0≤b)(hc:0≤c)(h:a+b+c≤1125899906842624):iB [a,b,c]=a+b+c:=by
 have:=Ie [a,b] c
 rw[show[a,b]++[c]=[a,b,c] from rfl,lQ ha hb (by omega),ib hc (by omega),ib (by omega) h] at this
 exact this
theorem kG{a b:Int}(ha:0≤a)(hb:0≤b)(h1:a≤1125899906842624)(h2:b≤1125899906842624)(h:a*b≤1125899906842624):kz [a,b]=a*b:=by
 rw[CP,ib ha h1,ib hb h2,lK ha hb h1 h2]
 omega
theorem Mr{a b:Int}(ha:0≤a)(h1:a≤1125899906842624)(hb:1≤b)(h2:b≤1125899906842624):Qz a b=(a+b-1)/b:=by
 have e:JC b=b:=by unfold JC;rw[ib (by omega) h2,if_neg (by omega)]
 unfold Qz
 rw[e,ib ha h1]
def Br(N W R:Int):Int:=24+R+N*W
def iD(N W:Int):Int:=N*(W+1)
def ic(N W:Int):Int:=3*(N*(W+1))+4
def fieldsI(W:Int):Int:=(W-8)*(W-1)
def Ew(a b:Int):Int:=(a+b-1)/b
def Pw(N W K:Int):Int:=2*Ew (ic N W) K+2*(W-7)
def AL(N W K:Int):Int:=Ew (2*ic N W+iD N W) K+2
theorem yP{a b A B:Int}(ha:0≤a)(hb:0≤b)(h1:a≤A)(h2:b≤B):0≤a*b∧a*b≤A*B:=
 ⟨Int.mul_nonneg ha hb,Int.mul_le_mul h1 h2 hb (by omega)⟩
theorem GN{N W R K:Int}(h:May N W R K):16≤N*W∧N*W≤4194304:=by
 have:=Int.mul_le_mul h.n0 h.w0 (by omega) (by have:=h.n0;omega)
 exact⟨by omega,h.nw⟩
theorem Kn(N W:Int):iD N W=N*W+N:=by unfold iD;rw[Int.mul_add];omega
theorem BV{N W R K:Int}(h:May N W R K):17≤iD N W∧iD N W≤5242880:=by
 have:=GN h
 have:=h.n0;have:=h.n1
 rw[Kn];omega
theorem Kt(N W:Int):ic N W=3*iD N W+4:=rfl
theorem Kr{N W R K:Int}(h:May N W R K):55≤ic N W∧ic N W≤15728644:=by
 have:=BV h
 rw[Kt];omega
theorem iq{W:Int}(h0:16≤W)(h1:W≤256):120≤fieldsI W∧fieldsI W≤63240:=by
 have a:=Int.mul_le_mul (show(8:Int)≤W-8 by omega) (show(15:Int)≤W-1 by omega) (by omega) (by omega)
 have b:=Int.mul_le_mul (show W-8≤248 by omega) (show W-1≤255 by omega) (by omega) (by omega)
 unfold fieldsI;omega
theorem Gc{a b:Int}(ha:0≤a)(hb:1≤b):0≤Ew a b∧Ew a b≤a∧a≤b*Ew a b∧b*Ew a b<a+b:=by
 unfold Ew
 have h1:=Int.emod_add_mul_ediv (a+b-1) b
 have h2:=Int.emod_nonneg (a+b-1) (show b≠0 by omega)
 have h3:=Int.emod_lt_of_pos (a+b-1) (show 0<b by omega)
 have h4:0≤(a+b-1)/b:=Int.ediv_nonneg (by omega) (by omega)
 refine⟨h4,?_,by omega,by omega⟩
 by_cases h5:a=0
 ·subst h5
  have:(0+b-1)/b=0:=Int.ediv_eq_zero_of_lt (by omega) (by omega)
  omega
 ·have h6:(a+b-1)/b<a+1:=by
   apply Int.ediv_lt_of_lt_mul (by omega)
   have h7:a*1≤a*b:=Int.mul_le_mul_of_nonneg_left hb ha
   have:(a+1)*b=a*b+b:=by rw[Int.add_mul];omega
   omega
  omega
def pw(n:Int):Int:=2^n.toNat
theorem nV(n:Int):0<pw n:=Int.pow_pos (by decide)
def df(at' n:Int):Bool:=decide (0≤at'∧1≤n∧n≤32∧at'≤32-n)
theorem jb{a n:Int}(h:df a n=true):0≤a∧1≤n∧n≤32∧a≤32-n:=of_decide_eq_true h
theorem IY{a n:Int}(h:df a n=false):¬(0≤a∧1≤n∧n≤32∧a≤32-n):=of_decide_eq_false h
def gL(w a n:Int):Int:=if df a n=true then w/pw a%pw n else 0
def rR(v n:Int):Bool:=decide (v<pw n)
def Dj(w a n v:Int):Int:=w-gL w a n*pw a+v*pw a
theorem OJ{m n:Int}(h:m≤n):pw m≤pw n:=by
 unfold pw
 have h1:m.toNat≤n.toNat:=by omega
 have:=Nat.pow_le_pow_right (n:=2) (by decide) h1
 exact_mod_cast this
theorem Qd{m n:Int}(hm:0≤m)(hn:0≤n):pw (m+n)=pw m*pw n:=by
 unfold pw
 rw[Int.toNat_add hm hn,Int.pow_add]
theorem Lx:pw 32=4294967296:=by decide
theorem QY:pw 0=1:=by decide
theorem Qe{n:Int}(h:n≤0):pw n=1:=by
 unfold pw
 have:n.toNat=0:=by omega
 rw[this];rfl
theorem GU{n:Int}(h:n≤32):pw n≤4294967296:=by rw[←Lx];exact OJ h
theorem NP{n:Int}(h:32≤n):4294967296≤pw n:=by rw[←Lx];exact OJ h
theorem Nn{n:Int}(h1:1≤n)(h2:n≤32):(4294967295:Int)/2^(32-n).toNat=pw n-1:=by
 have e:pw n*pw (32-n)=4294967296:=by
  rw[←Qd (by omega) (by omega),show n+(32-n)=32 by omega,Lx]
 have hp:=nV (32-n)
 have hq:=nV n
 show(4294967295:Int)/pw (32-n)=pw n-1
 have e2:(4294967295:Int)=(pw (32-n)-1)+(pw n-1)*pw (32-n):=by
  rw[Int.sub_mul,e];omega
 rw[e2,Int.add_mul_ediv_right _ _ (by omega),Int.ediv_eq_zero_of_lt (by omega) (by omega)]
 omega
theorem MW{w a n:Int}(h0:0≤w):0≤gL w a n:=by
 unfold gL;split
 ·exact Int.emod_nonneg _ (by have:=nV n;omega)
 ·exact Int.le_refl _
theorem MX{w a n:Int}:gL w a n<pw n:=by
 unfold gL;split
 ·exact Int.emod_lt_of_pos _ (nV n)
 ·exact nV n
theorem MV{w a n:Int}(h0:0≤w)(h1:w≤4294967295):gL w a n≤4294967295:=by
 by_cases hp:df a n=true
 ·have h:=jb hp
  have:=MX (w:=w) (a:=a) (n:=n)
  have:=GU h.2.2.1
  omega
 ·have:gL w a n=0:=by unfold gL;rw[if_neg hp]
  omega
theorem MZ{w a n:Int}(h0:0≤w)(h1:w≤4294967295)(hp:df a n=true):
  bits .and .u32 (w/2^a.toNat) (pw n-1)=gL w a n:=by
 obtain⟨ha,hn1,hn2,hd⟩:=jb hp
 have hle:w/pw a≤w:=Int.ediv_le_self _ h0
 have hge:0≤w/pw a:=Int.ediv_nonneg h0 (Int.le_of_lt (nV a))
 have hm:=GU hn2
 have hp0:=nV n
 show bits .and .u32 (w/pw a) (pw n-1)=_
 rw[u32_and _ _ hge (by omega) (by omega) (by omega)]
 unfold gL
 rw[if_pos hp]
 obtain⟨X,hX⟩:=Int.eq_ofNat_of_zero_le hge
 rw[hX]
 have e:(pw n-1).toNat=2^n.toNat-1:=by
  unfold pw
  have:((2:Int)^n.toNat)=((2^n.toNat:Nat):Int):=by simp
  rw[this];omega
 rw[e,Int.toNat_natCast,Nat.and_two_pow_sub_one_eq_mod]
 unfold pw
 simp
theorem FK(w a n:Nat):w=(w/2^(a+n))*2^(a+n)+(w/2^a%2^n)*2^a+w%2^a:=by
 have h1:=Nat.div_add_mod w (2^a)
 have h2:=Nat.div_add_mod (w/2^a) (2^n)
 rw[Nat.div_div_eq_div_mul,←Nat.pow_add] at h2
 have h3:2^a*(2^n*(w/2^(a+n)))=w/2^(a+n)*2^(a+n):=by
  rw[Nat.pow_add,←Nat.mul_assoc,Nat.mul_comm]
 have h4:2^a*(w/2^a)=2^a*(2^n*(w/2^(a+n)))+2^a*(w/2^a%2^n):=by
  rw[←Nat.mul_add,h2]
 have h5:2^a*(w/2^a%2^n)=w/2^a%2^n*2^a:=Nat.mul_comm _ _
 omega
theorem uJ(w a n v:Nat)(hv:v<2^n)(hw:w<2^32)(hn:a+n≤32):
  (w &&& (4294967295-(2^n-1)*2^a)) ||| v*2^a=(w/2^(a+n))*2^(a+n)+v*2^a+w%2^a:=by
 have hmul:(2^n-1)*2^a<2^32:=by
  have h1:(2^n-1)*2^a<2^n*2^a:=Nat.mul_lt_mul_of_pos_right (by have:=Nat.two_pow_pos n;omega) (Nat.two_pow_pos a)
  rw[←Nat.pow_add] at h1
  exact Nat.lt_of_lt_of_le h1 (Nat.pow_le_pow_right (by decide) (by omega))
 have hlow:v*2^a+w%2^a<2^(a+n):=by
  have h1:(v+1)*2^a≤2^n*2^a:=Nat.mul_le_mul_right _ hv
  rw[Nat.add_mul,Nat.one_mul] at h1
  have h2:=Nat.mod_lt w (Nat.two_pow_pos a)
  rw[Nat.pow_add,Nat.mul_comm (2^a)]
  omega
 apply Nat.eq_of_testBit_eq
 intro j
 have e1:(4294967295-(2^n-1)*2^a)=2^32-((2^n-1)*2^a+1):=by omega
 rw[Nat.testBit_or,Nat.testBit_and,e1,Nat.testBit_two_pow_sub_succ hmul]
 rw[Nat.add_assoc,Nat.mul_comm (w/2^(a+n)),Nat.testBit_two_pow_mul_add _ hlow,Nat.mul_comm v,Nat.testBit_two_pow_mul_add _ (Nat.mod_lt w (Nat.two_pow_pos a))]
 rw[Nat.mul_comm (2^n-1),Nat.testBit_two_pow_mul,Nat.testBit_two_pow_mul,Nat.testBit_two_pow_sub_one,Nat.testBit_mod_two_pow,Nat.testBit_div_two_pow]
 by_cases hj:j<a
 ·have h1:¬a≤j:=by omega
  have h2:j<a+n:=by omega
  have h3:j<32:=by omega
  simp[hj,h1,h2,h3]
 ·by_cases hj2:j<a+n
  ·have h1:a≤j:=by omega
   have h2:j-a<n:=by omega
   simp[hj,hj2,h1,h2]
  ·have h1:a≤j:=by omega
   have h2:¬j-a<n:=by omega
   have h3:v.testBit (j-a)=false:=by
    apply Nat.testBit_lt_two_pow
    exact Nat.lt_of_lt_of_le hv (Nat.pow_le_pow_right (by decide) (by omega))
   have h4:a+n+(j-(a+n))=j:=by omega
   have h6:j-(a+n)+(a+n)=j:=by omega
   by_cases h5:j<32
   ·simp[hj,hj2,h1,h2,h3,h4,h5,h6]
   ·have hwj:w.testBit j=false:=by
     apply Nat.testBit_lt_two_pow
     exact Nat.lt_of_lt_of_le hw (Nat.pow_le_pow_right (by decide) (by omega))
    simp[hj,hj2,h1,h2,h3,h4,h5,h6,hwj]
theorem PX{w a n v:Int}(h0:0≤w)(h1:w≤4294967295)(hv0:0≤v)(hp:df a n=true)(hf:rR v n=true):
  bits .or .u32 (bits .andNot .u32 w (IntKind.u32.wrap ((pw n-1)*2^a.toNat))) (IntKind.u32.wrap (v*2^a.toNat))=Dj w a n v:=by
 obtain⟨ha,hn1,hn2,hd⟩:=jb hp
 have hv:v<pw n:=of_decide_eq_true hf
 obtain⟨A,rfl⟩:=Int.eq_ofNat_of_zero_le ha
 obtain⟨N,rfl⟩:=Int.eq_ofNat_of_zero_le (by omega:0≤n)
 obtain⟨W,rfl⟩:=Int.eq_ofNat_of_zero_le h0
 obtain⟨V,rfl⟩:=Int.eq_ofNat_of_zero_le hv0
 have eN:pw (N:Int)=((2^N:Nat):Int):=by unfold pw;simp
 have eA:pw (A:Int)=((2^A:Nat):Int):=by unfold pw;simp
 have eA2:(2:Int)^(A:Int).toNat=((2^A:Nat):Int):=by simp
 have hV:V<2^N:=by rw[eN] at hv;exact_mod_cast hv
 have hs:A+N≤32:=by omega
 have hW:W<2^32:=by omega
 have hpos:=Nat.two_pow_pos N
 have eM:(pw (N:Int)-1)*2^(A:Int).toNat=(((2^N-1)*2^A:Nat):Int):=by
  rw[eN,eA2,Int.natCast_mul,Int.natCast_sub hpos];simp
 have eV:(V:Int)*2^(A:Int).toNat=((V*2^A:Nat):Int):=by rw[eA2,Int.natCast_mul]
 have bM:(2^N-1)*2^A<2^32:=by
  have h1:(2^N-1)*2^A<2^N*2^A:=Nat.mul_lt_mul_of_pos_right (by omega) (Nat.two_pow_pos A)
  rw[←Nat.pow_add] at h1
  exact Nat.lt_of_lt_of_le h1 (Nat.pow_le_pow_right (by decide) (by omega))
 have bV:V*2^A<2^32:=by
  have h1:V*2^A<2^N*2^A:=Nat.mul_lt_mul_of_pos_right hV (Nat.two_pow_pos A)
  rw[←Nat.pow_add] at h1
  exact Nat.lt_of_lt_of_le h1 (Nat.pow_le_pow_right (by decide) (by omega))
 rw[eM,eV,IntKind.wrap_u32,IntKind.wrap_u32]
 rw[show((((2^N-1)*2^A:Nat):Int))%4294967296=(((2^N-1)*2^A:Nat):Int) from by omega]
 rw[show((V*2^A:Nat):Int)%4294967296=((V*2^A:Nat):Int) from by omega]
 rw[u32_andNot _ _ (by omega) (by omega) (by omega) (by omega)]
 have hle:W &&& (4294967295-(2^N-1)*2^A)≤W:=Nat.and_le_left
 rw[Int.toNat_natCast,Int.toNat_natCast,u32_or _ _ (by omega) (by omega) (by omega) (by omega),Int.toNat_natCast,Int.toNat_natCast,uJ W A N V hV hW hs]
 unfold Dj gL
 rw[if_pos hp,eN,eA]
 have hsw:=FK W A N
 have e1:((W:Int)/((2^A:Nat):Int)%((2^N:Nat):Int))=((W/2^A%2^N:Nat):Int):=by simp
 rw[e1,←Int.natCast_mul,←Int.natCast_mul]
 omega
theorem Kv{v n:Int}(h0:0≤v)(h1:v≤4294967295)(hn:0≤n):(v/2^min n.toNat 32==0)=rR v n:=by
 unfold rR
 rw[Bool.eq_iff_iff,beq_iff_eq,decide_eq_true_iff]
 by_cases h:n≤32
 ·have e:min n.toNat 32=n.toNat:=by omega
  rw[e]
  show v/pw n=0↔v<pw n
  constructor
  ·intro hz
   have h2:=Int.lt_ediv_add_one_mul_self v (nV n)
   rw[hz] at h2
   omega
  ·intro hlt;exact Int.ediv_eq_zero_of_lt h0 hlt
 ·have e:min n.toNat 32=32:=by omega
  rw[e]
  have hz:v/2^32=0:=Int.ediv_eq_zero_of_lt h0 (by omega)
  have:=NP (n:=n) (by omega)
  constructor
  ·intro _;omega
  ·intro _;exact hz
theorem Ku{v n:Int}(h0:0≤v)(hn:n≤0):(v==0)=rR v n:=by
 unfold rR
 rw[Qe hn,Bool.eq_iff_iff,beq_iff_eq,decide_eq_true_iff]
 omega
def sumTo(zs:List Int):Nat→Int
 |0=>0
 |k+1=>sumTo zs k+nth zs k
def oP(x:Int)(zs:List Int)(k:Nat):List Int:=(List.range k).map fun j=>gL x (sumTo zs j) (nth zs j)
theorem oh(x:Int)(zs:List Int)(k:Nat):(oP x zs k).length=k:=by simp[oP]
set_option maxHeartbeats 400000 in
theorem nM(n:Int)(w:World)(h1:1≤n)(h2:n≤32):
  Calls Tryz.prog 231 #[.int .i64 n] w fun e w'=>e=.returned (.bool true)∧w=w':=by
 go_enter Tryz.func231,Tryz.ntmps231
 go_wp2
 go_ret
 exact⟨rfl,rfl⟩
set_option maxHeartbeats 400000 in
theorem EO(n:Int)(w:World)(h:¬(1≤n∧n≤32)):
  Calls Tryz.prog 231 #[.int .i64 n] w fun e w'=>e=.returned (.bool false)∧w=w':=by
 by_cases h1:1≤n
 ·have h2:¬n≤32:=fun h2=>h ⟨h1,h2⟩
  clear h
  go_enter Tryz.func231,Tryz.ntmps231
  go_wp2
  go_ret
  exact⟨rfl,rfl⟩
 ·clear h
  go_enter Tryz.func231,Tryz.ntmps231
  go_wp2
  go_ret
  exact⟨rfl,rfl⟩
set_option maxHeartbeats 400000 in
theorem nL(a n:Int)(w:World)(hp:df a n=true):
  Calls Tryz.prog 224 #[.int .i64 a,.int .i64 n] w fun e w'=>e=.returned (.bool true)∧w=w':=by
 obtain⟨h0,h1,h2,h3⟩:=jb hp
 clear hp
 go_enter Tryz.func224,Tryz.ntmps224
 go_wp2_with (go_at_call 231;refine(nM _ _ (by omega) (by omega)).mono ?_;rintro e w' ⟨rfl,rfl⟩)
 go_ret
 exact⟨rfl,rfl⟩
set_option maxHeartbeats 400000 in
theorem vI(a n:Int)(w:World)(hp:df a n=false):
  Calls Tryz.prog 224 #[.int .i64 a,.int .i64 n] w fun e w'=>e=.returned (.bool false)∧w=w':=by
 have h:=IY hp
 clear hp
 by_cases hw:1≤n∧n≤32
 ·obtain⟨h1,h2⟩:=hw
  by_cases h0:0≤a
  ·have h3:¬a≤32-n:=fun h3=>h ⟨h0,h1,h2,h3⟩
   clear h
   go_enter Tryz.func224,Tryz.ntmps224
   go_wp2_with (go_at_call 231;refine(nM _ _ (by omega) (by omega)).mono ?_;rintro e w' ⟨rfl,rfl⟩)
   go_ret
   exact⟨aH (decide_eq_false (by omega)),rfl⟩
  ·clear h
   go_enter Tryz.func224,Tryz.ntmps224
   go_wp2_with (go_at_call 231;refine(nM _ _ (by omega) (by omega)).mono ?_;rintro e w' ⟨rfl,rfl⟩)
   go_ret
   exact⟨rfl,rfl⟩
 ·clear h
  have hW:Hid (¬(1≤n∧n≤32)):=hw
  clear hw
  go_enter Tryz.func224,Tryz.ntmps224
  go_wp2_with (go_at_call 231;refine(EO _ _ hW.out).mono ?_;rintro e w' ⟨rfl,rfl⟩)
  go_ret
  exact⟨rfl,rfl⟩
set_option maxHeartbeats 400000 in
theorem tK(n:Int)(w:World)(h1:1≤n)(h2:n≤32):
  Calls Tryz.prog 225 #[.int .i64 n] w fun e w'=>e=.returned (.int .u32 (pw n-1))∧w=w':=by
 go_enter Tryz.func225,Tryz.ntmps225
 go_wp2
 go_ret
 exact⟨bX (Nn h1 h2),rfl⟩
set_option maxHeartbeats 400000 in
theorem Cg(v n:Int)(w:World)(h0:0≤v)(h1:v≤4294967295):
  Calls Tryz.prog 228 #[.int .u32 v,.int .i64 n] w fun e w'=>e=.returned (.bool (rR v n))∧w=w':=by
 by_cases hn:0≤n
 ·go_enter Tryz.func228,Tryz.ntmps228
  go_wp2
  go_ret
  exact⟨aH (Kv h0 h1 hn),rfl⟩
 ·go_enter Tryz.func228,Tryz.ntmps228
  go_wp2
  go_ret
  exact⟨aH (Ku h0 (by omega)),rfl⟩
set_option maxHeartbeats 400000 in
theorem Nb(x a n:Int)(w:World)(h0:0≤x)(h1:x≤4294967295)(hp:df a n=true):
  Calls Tryz.prog 205 #[.int .u32 x,.int .i64 a,.int .i64 n] w fun e w'=>e=.returned (.int .u32 (gL x a n))∧∃k,w'=w.drewN k:=by
 obtain⟨g0,g1,g2,g3⟩:=jb hp
 have HG:Hid (bits .and .u32 (x/2^a.toNat) (pw n-1)=gL x a n):=MZ h0 h1 hp
 have HP:Hid (df a n=true):=hp
 clear hp
 go_enter Tryz.func205,Tryz.ntmps205
 go_wp2_with (go_at_call 224;refine(nL _ _ _ HP.out).mono ?_;rintro e w' ⟨rfl,rfl⟩)
 go_quiet ((go_at_call 225;exact Dm (tK _ _ g1 g2)))
 go_wp2
 go_ret
 exact⟨bX HG.out,_,rfl⟩
set_option maxHeartbeats 400000 in
theorem Pg(x a n:Int)(w:World)(hp:df a n=false):
  Calls Tryz.prog 205 #[.int .u32 x,.int .i64 a,.int .i64 n] w fun e w'=>e=.returned (.int .u32 0)∧w=w':=by
 have HP:Hid (df a n=false):=hp
 clear hp
 go_enter Tryz.func205,Tryz.ntmps205
 go_wp2_with (go_at_call 224;refine(vI _ _ _ HP.out).mono ?_;rintro e w' ⟨rfl,rfl⟩)
 go_ret
 exact⟨rfl,rfl⟩
theorem NT{a b c:Int}(h:a=b):Ending.returned (.tuple #[.int .u32 a,.int .i64 c])=.returned (.tuple #[.int .u32 b,.int .i64 c]):=by rw[h]
set_option maxHeartbeats 400000 in
theorem PW(x a n v:Int)(w:World)(hp:df a n=false):
  Calls Tryz.prog 209 #[.int .u32 x,.int .i64 a,.int .i64 n,.int .u32 v] w fun e w'=>e=.returned (.tuple #[.int .u32 0,.int .i64 2])∧w=w':=by
 have HP:Hid (df a n=false):=hp
 clear hp
 go_enter Tryz.func209,Tryz.ntmps209
 go_wp2_with (go_at_call 224;refine(vI _ _ _ HP.out).mono ?_;rintro e w' ⟨rfl,rfl⟩)
 go_ret2
 exact⟨rfl,rfl⟩
set_option maxHeartbeats 400000 in
theorem NM(x a n v:Int)(w:World)(hp:df a n=true)(hv0:0≤v)(hv1:v≤4294967295)(hf:rR v n=false):
  Calls Tryz.prog 209 #[.int .u32 x,.int .i64 a,.int .i64 n,.int .u32 v] w fun e w'=>e=.returned (.tuple #[.int .u32 0,.int .i64 15])∧w=w':=by
 have HP:Hid (df a n=true):=hp
 clear hp
 go_enter Tryz.func209,Tryz.ntmps209
 go_wp2_with (first|(go_at_call 224;refine(nL _ _ _ HP.out).mono ?_;rintro e w' ⟨rfl,rfl⟩)|(go_at_call 228;refine(Cg _ _ _ hv0 hv1).mono ?_;rintro e w' ⟨rfl,rfl⟩))
 go_ret2
 exact⟨rfl,rfl⟩
set_option maxHeartbeats 400000 in
theorem NN(x a n v:Int)(w:World)(h0:0≤x)(h1:x≤4294967295)(hp:df a n=true)(hv0:0≤v)(hv1:v≤4294967295)(hf:rR v n=true):
  Calls Tryz.prog 209 #[.int .u32 x,.int .i64 a,.int .i64 n,.int .u32 v] w fun e w'=>e=.returned (.tuple #[.int .u32 (Dj x a n v),.int .i64 0])∧∃k,w'=w.drewN k:=by
 obtain⟨g0,g1,g2,g3⟩:=jb hp
 have HG:Hid (bits .or .u32 (bits .andNot .u32 x (IntKind.u32.wrap ((pw n-1)*2^a.toNat))) (IntKind.u32.wrap (v*2^a.toNat))=Dj x a n v):=PX h0 h1 hv0 hp hf
 have HP:Hid (df a n=true):=hp
 clear hp
 go_enter Tryz.func209,Tryz.ntmps209
 go_wp2_with (first|(go_at_call 224;refine(nL _ _ _ HP.out).mono ?_;rintro e w' ⟨rfl,rfl⟩)|(go_at_call 228;refine(Cg _ _ _ hv0 hv1).mono ?_;rintro e w' ⟨rfl,rfl⟩))
 go_quiet ((go_at_call 225;exact Dm (tK _ _ g1 g2)))
 go_wp2
 go_ret2
 exact⟨NT HG.out,_,rfl⟩
def JL(x:Int)(zs:List Int)(w:World)(e:Ending)(w':World):Prop:=
 ∃a cap,e=.returned (.tuple #[.slice a zs.length cap,.int .i64 0])∧Row w' .u32 a (oP x zs zs.length)∧Below w.heap.size w w'
theorem JL.mk{x:Int}{zs:List Int}{w w':World}{v:Value}{B:Nat}{t:TypeId}
  (h:w'.ownsRow B t 1 v zs.length ((oP x zs zs.length).map (Value.int .u32))) (hb:Below w.heap.size w w'):JL x zs w (.returned (.tuple #[v,.int .i64 0])) w':=by
 have h2:w'.ownsRow B t 1 v (oP x zs zs.length).length ((oP x zs zs.length).map (Value.int .u32)):=by rw[oh];exact h
 obtain⟨a,cap,hv,hr⟩:=Row.kI h2
 rw[oh] at hv
 exact⟨a,cap,by rw[hv],hr,hb⟩
def qW(x a n v:Int):Int:=if df a n=true then(if rR v n=true then Dj x a n v else 0) else 0
def Ls(a n v:Int):Int:=if df a n=true then(if rR v n=true then 0 else 15) else 2
theorem Dl{x a n v:Int}(h1:df a n=true)(h2:rR v n=true):qW x a n v=Dj x a n v:=by unfold qW;rw[if_pos h1,if_pos h2]
theorem Lt{a n v:Int}(h1:df a n=true)(h2:rR v n=true):Ls a n v=0:=by unfold Ls;rw[if_pos h1,if_pos h2]
theorem wu{a b c d:Int}(h:a=b)(h2:c=d):Ending.returned (.tuple #[.int .u32 a,.int .i64 c])=.returned (.tuple #[.int .u32 b,.int .i64 d]):=by rw[h,h2]
theorem Na(x a n:Int)(w:World)(h0:0≤x)(h1:x≤4294967295):
  Calls Tryz.prog 205 #[.int .u32 x,.int .i64 a,.int .i64 n] w fun e w'=>e=.returned (.int .u32 (gL x a n))∧Drw w w':=by
 cases hp:df a n
 ·refine(Pg x a n w hp).mono fun e w' ⟨he,hw⟩=>⟨?_,hw▸Drw.refl w⟩
  rw[he];exact bX (by unfold gL;rw[hp];rfl)
 ·exact Nb x a n w h0 h1 hp
theorem NL(x a n v:Int)(w:World)(h0:0≤x)(h1:x≤4294967295)(hv0:0≤v)(hv1:v≤4294967295):
  Calls Tryz.prog 209 #[.int .u32 x,.int .i64 a,.int .i64 n,.int .u32 v] w fun e w'=>e=.returned (.tuple #[.int .u32 (qW x a n v),.int .i64 (Ls a n v)])∧Drw w w':=by
 cases hp:df a n
 ·refine(PW x a n v w hp).mono fun e w' ⟨he,hw⟩=>⟨?_,hw▸Drw.refl w⟩
  rw[he];exact wu (by unfold qW;rw[hp];rfl) (by unfold Ls;rw[hp];rfl)
 ·cases hf:rR v n
  ·refine(NM x a n v w hp hv0 hv1 hf).mono fun e w' ⟨he,hw⟩=>⟨?_,hw▸Drw.refl w⟩
   rw[he];exact wu (by unfold qW;rw[hp,hf];rfl) (by unfold Ls;rw[hp,hf];rfl)
  ·refine(NN x a n v w h0 h1 hp hv0 hv1 hf).mono fun e w' ⟨he,hw⟩=>⟨?_,hw⟩
   rw[he];exact wu (Dl hp hf).symm (Lt hp hf).symm
open Classical in
open Classical in
open Classical in
open Classical in
def iZ(n b:Int):Bool:=decide (0≤n∧n<b)
theorem GA{n b:Int}(h:iZ n b=true):0≤n∧n<b:=of_decide_eq_true h
theorem Pq{n b:Int}(h:0≤n∧n<b):iZ n b=true:=decide_eq_true h
theorem Gz{n b:Int}(h:¬(0≤n∧n<b)):iZ n b=false:=decide_eq_false h
def sW(c n s d g:Int):Bool:=iZ c 2&&iZ n 2&&iZ s 2&&iZ d 2&&iZ g 2
def pJ(c n s d g:Int):Bool:=decide (c=0∧n=0∧s=0∧d=0∧g=0)
def dz(k c n s d g o:Int):Bool:=iZ k 4&&iZ o 1048576&&(k==3||o==0)&&sW c n s d g&&(!(k==0||k==3)||pJ c n s d g)
def bY(k c n s d g o:Int):Prop:=
 (0≤k∧k<4)∧(0≤o∧o<1048576)∧(k=3∨o=0)∧(0≤c∧c<2)∧(0≤n∧n<2)∧(0≤s∧s<2)∧(0≤d∧d<2)∧(0≤g∧g<2)∧((k=0∨k=3)→c=0∧n=0∧s=0∧d=0∧g=0)
theorem jc{k c n s d g o:Int}:dz k c n s d g o=true↔bY k c n s d g o:=by
 unfold dz bY sW pJ iZ
 simp only[Bool.and_eq_true,Bool.or_eq_true,Bool.not_eq_true',Bool.or_eq_false_iff,decide_eq_true_eq,beq_iff_eq,beq_eq_false_iff_ne,ne_eq]
 omega
theorem wB{k c n s d g o:Int}(h:dz k c n s d g o=true):bY k c n s d g o:=jc.1 h
theorem jM{k c n s d g o:Int}(h:bY k c n s d g o):dz k c n s d g o=true:=jc.2 h
theorem Jd{k c n s d g o:Int}(h:¬bY k c n s d g o):dz k c n s d g o=false:=by
 cases h2:dz k c n s d g o with
 |false=>rfl
 |true=>exact absurd (wB h2) h
theorem uX{a b:Bool}(h:a=true↔b=true):a=b:=by cases a<;>cases b<;>simp_all
theorem yR{c n s d g:Int}:pJ c n s d g=true↔c=0∧n=0∧s=0∧d=0∧g=0:=by unfold pJ;simp
theorem Ij{c n s d g:Int}:sW c n s d g=true↔(0≤c∧c<2)∧(0≤n∧n<2)∧(0≤s∧s<2)∧(0≤d∧d<2)∧(0≤g∧g<2):=by
 unfold sW iZ;simp[and_assoc]
theorem Re{k c n s d g o:Int}(h:iZ k 4=false):dz k c n s d g o=false:=by unfold dz;rw[h];rfl
theorem Rf{k c n s d g o:Int}(h:iZ o 1048576=false):dz k c n s d g o=false:=by unfold dz;rw[h];simp
theorem Qf{k c n s d g o:Int}(h:¬k=3)(h2:¬o=0):dz k c n s d g o=false:=by
 refine Jd fun hr=> ?_
 obtain⟨_,_,h3,_⟩:=hr
 omega
theorem Rc{c n s d g o:Int}(h:iZ o 1048576=true):dz 3 c n s d g o=pJ c n s d g:=by
 have:=GA h
 refine uX ?_
 rw[jc,yR];unfold bY
 omega
theorem Rb{c n s d g:Int}:dz 0 c n s d g 0=pJ c n s d g:=by
 refine uX ?_
 rw[jc,yR];unfold bY
 omega
theorem Rh{k c n s d g:Int}(h:iZ k 4=true)(h0:¬k=0)(h3:¬k=3):dz k c n s d g 0=sW c n s d g:=by
 have:=GA h
 refine uX ?_
 rw[jc,Ij];unfold bY
 omega
def bZ(k c n s d g o:Int):Int:=k+4*c+8*n+16*s+32*d+64*g+256*o
theorem Lu{x a n v:Int}(h0:0≤x)(hx:x<pw a)(hp:df a n=true):Dj x a n v=x+v*pw a:=by
 unfold Dj gL
 rw[if_pos hp,Int.ediv_eq_zero_of_lt h0 hx]
 simp
theorem kr{x a n v:Int}(h0:0≤x)(hx:x<pw a)(hp:df a n=true)(hf:v<pw n):qW x a n v=x+v*pw a:=by
 rw[Dl hp (decide_eq_true hf),Lu h0 hx hp]
theorem xI:pw 1=2:=by decide
theorem Lv:pw 2=4:=by decide
theorem PY:pw 3=8:=by decide
theorem PZ:pw 4=16:=by decide
theorem Qa:pw 5=32:=by decide
theorem Qb:pw 6=64:=by decide
theorem Qc:pw 8=256:=by decide
theorem OI:pw 24=16777216:=by decide
def PO(k:Int):Int:=qW 0 0 2 k
def PP(k c:Int):Int:=qW (PO k) 2 1 c
def PQ(k c n:Int):Int:=qW (PP k c) 3 1 n
def PR(k c n s:Int):Int:=qW (PQ k c n) 4 1 s
def PS(k c n s d:Int):Int:=qW (PR k c n s) 5 1 d
def PT(k c n s d g:Int):Int:=qW (PS k c n s d) 6 1 g
def Ry(k c n s d g o:Int):Int:=qW (PT k c n s d g) 8 24 o
theorem PU{k c n s d g o:Int}(h:bY k c n s d g o):
  Ry k c n s d g o=bZ k c n s d g o∧(0≤PO k∧PO k≤4294967295)∧(0≤PP k c∧PP k c≤4294967295)∧(0≤PQ k c n∧PQ k c n≤4294967295)∧(0≤PR k c n s∧PR k c n s≤4294967295)∧(0≤PS k c n s d∧PS k c n s d≤4294967295)∧(0≤PT k c n s d g∧PT k c n s d g≤4294967295):=by
 obtain⟨h1,h2,h3,h4,h5,h6,h7,h8,h9⟩:=h
 have e0:PO k=k:=by
  unfold PO;rw[kr (by omega) (by decide) (by decide) (by rw[Lv];omega),QY];omega
 have e1:PP k c=k+4*c:=by
  unfold PP;rw[e0,kr (by omega) (by rw[Lv];omega) (by decide) (by rw[xI];omega),Lv];omega
 have e2:PQ k c n=k+4*c+8*n:=by
  unfold PQ;rw[e1,kr (by omega) (by rw[PY];omega) (by decide) (by rw[xI];omega),PY];omega
 have e3:PR k c n s=k+4*c+8*n+16*s:=by
  unfold PR;rw[e2,kr (by omega) (by rw[PZ];omega) (by decide) (by rw[xI];omega),PZ];omega
 have e4:PS k c n s d=k+4*c+8*n+16*s+32*d:=by
  unfold PS;rw[e3,kr (by omega) (by rw[Qa];omega) (by decide) (by rw[xI];omega),Qa];omega
 have e5:PT k c n s d g=k+4*c+8*n+16*s+32*d+64*g:=by
  unfold PT;rw[e4,kr (by omega) (by rw[Qb];omega) (by decide) (by rw[xI];omega),Qb];omega
 have e6:Ry k c n s d g o=k+4*c+8*n+16*s+32*d+64*g+256*o:=by
  unfold Ry;rw[e5,kr (by omega) (by rw[Qc];omega) (by decide) (by rw[OI];omega),Qc];omega
 unfold bZ
 omega
def uK(x:Int):Int:=x%4
def uC(x:Int):Int:=x/4%2
def uN(x:Int):Int:=x/8%2
def uS(x:Int):Int:=x/16%2
def uD(x:Int):Int:=x/32%2
def uG(x:Int):Int:=x/64%2
def uO(x:Int):Int:=x/256
theorem Pm(x:Int):gL x 0 2=uK x:=by
 unfold gL uK;rw[if_pos (by decide),QY,Lv,Int.ediv_one]
theorem Ph(x:Int):gL x 2 1=uC x:=by unfold gL uC;rw[if_pos (by decide),xI,Lv]
theorem Pn(x:Int):gL x 3 1=uN x:=by unfold gL uN;rw[if_pos (by decide),xI,PY]
theorem Pp(x:Int):gL x 4 1=uS x:=by unfold gL uS;rw[if_pos (by decide),xI,PZ]
theorem Pi(x:Int):gL x 5 1=uD x:=by unfold gL uD;rw[if_pos (by decide),xI,Qa]
theorem Pj(x:Int):gL x 6 1=uG x:=by unfold gL uG;rw[if_pos (by decide),xI,Qb]
theorem Po{x:Int}(h0:0≤x)(h1:x≤4294967295):gL x 8 24=uO x:=by
 unfold gL uO;rw[if_pos (by decide),Qc,OI];omega
theorem unpack_pack{k c n s d g o:Int}(h:bY k c n s d g o):
  uK (bZ k c n s d g o)=k∧uC (bZ k c n s d g o)=c∧uN (bZ k c n s d g o)=n∧uS (bZ k c n s d g o)=s∧uD (bZ k c n s d g o)=d∧uG (bZ k c n s d g o)=g∧uO (bZ k c n s d g o)=o:=by
 obtain⟨h1,h2,h3,h4,h5,h6,h7,h8,h9⟩:=h
 unfold bZ uK uC uN uS uD uG uO
 omega
theorem CY(x:Int):bZ (uK x) (uC x) (uN x) (uS x) (uD x) (uG x) (uO x)=x-128*(x/128%2):=by
 unfold bZ uK uC uN uS uD uG uO
 omega
def Bq(W:Int):Bool:=decide (16≤W∧W≤256)
theorem rF{W:Int}(h:Bq W=true):16≤W∧W≤256:=of_decide_eq_true h
theorem uQ{W:Int}(h0:16≤W)(h1:W≤256):Bq W=true:=decide_eq_true ⟨h0,h1⟩
theorem Et{W:Int}(h:¬(16≤W∧W≤256)):Bq W=false:=decide_eq_false h
def cB(W n:Int):Int:=if n≤W-8 then 0 else Ew n (W-1)
def sJ(l:Int):Int:=if l= -1 then 8 else 1
def rH(W l:Int):Int:=kz [l,W-1]
def eG(W n:Int):Int:=if Bq W=true then(if n<0∨fieldsI W<n then 3 else 0) else 1
def dM(W p d:Int):Int:=if Bq W=true then(if p<0∨d<0∨fieldsI W<p+d then 3 else 0) else 1
def bL(W p d:Int):Int:=if dM W p d=0 then 1+cB W (p+d) else 0
def eF(W n i:Int):Int:=if eG W n=0 then(if i<0∨n≤i then 7 else 0) else eG W n
def kg(W n i:Int):Int:=if eF W n i=0 then(if n≤W-8 then -1 else i/(W-1)) else 0
def jq(W n i:Int):Int:=if eF W n i=0 then(if n≤W-8 then 8+i else 1+i%(W-1)) else 0
theorem zy{W n:Int}(h:eG W n=0):16≤W∧W≤256∧0≤n∧n≤fieldsI W:=by
 unfold eG at h
 split at h
 ·rename_i hw
  have:=rF hw
  split at h
  ·cases h
  ·omega
 ·cases h
theorem JA{W n:Int}(h0:16≤W)(h1:W≤256)(h2:0≤n)(h3:n≤fieldsI W):eG W n=0:=by
 unfold eG;rw[if_pos (uQ h0 h1),if_neg (by omega)]
theorem rq{W p d:Int}(h:dM W p d=0):16≤W∧W≤256∧0≤p∧0≤d∧p+d≤fieldsI W:=by
 unfold dM at h
 split at h
 ·rename_i hw
  have:=rF hw
  split at h
  ·cases h
  ·omega
 ·cases h
theorem zb{W n i:Int}(h:eF W n i=0):eG W n=0∧0≤i∧i<n:=by
 unfold eF at h
 split at h
 ·split at h
  ·cases h
  ·exact⟨by assumption,by omega,by omega⟩
 ·exact absurd h (by assumption)
theorem za{W n i:Int}(h:eG W n=0)(h0:0≤i)(h1:i<n):eF W n i=0:=by
 unfold eF;rw[if_pos h,if_neg (by omega)]
theorem ma{W n:Int}(h0:16≤W)(h1:W≤256)(h2:W-8<n)(h3:n≤fieldsI W):
  1≤cB W n∧cB W n≤W-8∧n≤cB W n*(W-1)∧cB W n*(W-1)<n+W-1:=by
 have e:cB W n=Ew n (W-1):=by unfold cB;rw[if_neg (by omega)]
 have u:=Gc (a:=n) (b:=W-1) (by omega) (by omega)
 rw[e]
 rw[Int.mul_comm (W-1)] at u
 refine⟨?_,?_,u.2.2.1,by omega⟩
 ·by_cases h:1≤Ew n (W-1)
  ·exact h
  ·have:Ew n (W-1)=0:=by omega
   rw[this,Int.zero_mul] at u
   omega
 ·by_cases h:Ew n (W-1)≤W-8
  ·exact h
  ·have h4:(W-8+1)*(W-1)≤Ew n (W-1)*(W-1):=Int.mul_le_mul_of_nonneg_right (by omega) (by omega)
   rw[Int.add_mul] at h4
   have:(W-8)*(W-1)=fieldsI W:=rfl
   omega
theorem jA{W n:Int}(h:n≤W-8):cB W n=0:=by unfold cB;rw[if_pos h]
theorem lg{W n:Int}(h0:16≤W)(h1:W≤256)(h3:n≤fieldsI W):0≤cB W n∧cB W n≤W-8:=by
 by_cases h:n≤W-8
 ·rw[jA h];omega
 ·have:=ma h0 h1 (by omega) h3;omega
theorem Nl{m a b:Int}(hm:1≤m)(h:a<b):a*m+m≤b*m:=by
 have:(a+1)*m≤b*m:=Int.mul_le_mul_of_nonneg_right (by omega) (by omega)
 rw[Int.add_mul] at this
 omega
theorem Ig{W l:Int}(h0:16≤W)(h1:W≤256)(h:l≤0):rH W l=0:=by
 unfold rH
 rw[CP,OY h,ib (by omega) (by omega),lK (by omega) (by omega) (by omega) (by omega),Int.zero_mul]
 rfl
theorem JV{W l:Int}(h0:16≤W)(h1:W≤256)(h:0≤l)(h2:l≤256):rH W l=l*(W-1):=by
 unfold rH
 have:=yP h (show 0≤W-1 by omega) h2 (show W-1≤255 by omega)
 exact kG (by omega) (by omega) (by omega) (by omega) (by omega)
theorem NE{m i:Int}(hm:1≤m)(hi:0≤i):i=(i/m)*m+i%m∧0≤i%m∧i%m<m∧0≤i/m:=
 ⟨by have:=Int.emod_add_mul_ediv i m;rw[Int.mul_comm] at this;omega,Int.emod_nonneg _ (by omega),Int.emod_lt_of_pos _ (by omega),Int.ediv_nonneg hi (by omega)⟩
theorem tQ{W n i:Int}(h:eF W n i=0)(hn:n≤W-8):kg W n i= -1∧jq W n i=8+i:=by
 unfold kg jq;rw[if_pos h,if_pos hn,if_pos h,if_pos hn];exact⟨rfl,rfl⟩
theorem ze{W n i:Int}(h:eF W n i=0)(hn:W-8<n):kg W n i=i/(W-1)∧jq W n i=1+i%(W-1):=by
 unfold kg jq;rw[if_pos h,if_neg (by omega),if_pos h,if_neg (by omega)];exact⟨rfl,rfl⟩
theorem tT{W n i:Int}(h:eF W n i≠0):kg W n i=0∧jq W n i=0:=by
 unfold kg jq;rw[if_neg h,if_neg h];exact⟨rfl,rfl⟩
end Go.Proofs.YtjmifnljckmimaaGreat.Pk
