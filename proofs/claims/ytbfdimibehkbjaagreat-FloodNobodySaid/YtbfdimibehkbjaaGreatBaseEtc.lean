/-
  Texts laid together: Base, NumMath, PackFn, TagMath, ShapeMath.
-/
import Derived.WalkKit
import Derived.WalkSpells
import Derived.WalkLawsBesides
import Derived.Deep.QuietTactic
import Derived.BigQuiet
import Derived.Lib.Hide
import Derived.Laws.NewBlocks
import Derived.OneCell
import Derived.Laws.MakeOwn
import Derived.Laws.OwnMore
import Derived.Test.YtbfdimibehkbjaaGreatProg
import Derived.IntWalk
namespace Go.Proofs.YtbfdimibehkbjaaGreat.Pk
open Go.RowKit
set_option linter.unusedVariables false
set_option linter.unusedSimpArgs false
def nth(zs:List Int)(i:Nat):Int:=zs.getD i 0
def Row(w:World)(k:IntKind)(a:Option Addr)(zs:List Int):Prop:=
 ∀i,i<zs.length→∃b off,a=some ⟨b,off,none⟩∧b<w.heap.size∧w.cell? ⟨b,off+i,none⟩=some (.int k (nth zs i))
theorem Row.nil(w:World)(k:IntKind)(a:Option Addr):Row w k a []:=fun _ h=>absurd h (Nat.not_lt_zero _)
theorem Row.below{w w':World}{k:IntKind}{a:Option Addr}{zs:List Int}{B:Nat}(h:Row w k a zs)(hb:Below B w w')(hB:w.heap.size≤B):Row w' k a zs:=by
 intro i hi
 obtain⟨b,off,ha,hlt,hc⟩:=h i hi
 exact⟨b,off,ha,Nat.lt_of_lt_of_le hlt hb.size,by rw[hb.cell (p:=⟨b,off+i,none⟩) (Nat.lt_of_lt_of_le hlt hB)];exact hc⟩
theorem Row.drewN{w:World}{k:IntKind}{a:Option Addr}{zs:List Int}(h:Row w k a zs)(n:Nat):Row (w.drewN n) k a zs:=by
 intro i hi
 obtain⟨b,off,ha,hlt,hc⟩:=h i hi
 exact⟨b,off,ha,hlt,hc⟩
theorem Row.alloc{w:World}{k:IntKind}{a:Option Addr}{zs:List Int}(h:Row w k a zs)(o:Obj):Row (w.alloc o) k a zs:=
 h.below ((Below.refl w.heap.size w).alloc (Nat.le_refl _) o) (Nat.le_refl _)
theorem Row.later{w w':World}{k:IntKind}{a:Option Addr}{zs:List Int}(h:Row w k a zs)(hb:Below w.heap.size w w'):Row w' k a zs:=h.below hb (Nat.le_refl _)
theorem below_step{w w1 w2:World}(h:Below w.heap.size w w1)(h2:Below w1.heap.size w1 w2):Below w.heap.size w w2:=h.trans (h2.mono h.size)
theorem ak(w:World)(o:Obj):Below w.heap.size w (w.alloc o):=(Below.refl _ _).alloc (Nat.le_refl _) o
theorem kv{w w1:World}(h:Below w.heap.size w w1){p:Addr}(hp:w.heap.size≤p.block)(u:Value):Below w.heap.size w (w1.setCell p u):=h.setCell hp u
def jr(w w':World):Prop:=∃m,w'=w.drewN m
theorem jr.refl(w:World):jr w w:=⟨0,rfl⟩
theorem jr.step{w w':World}(h:jr w w')(n:Nat):jr w (w'.drewN n):=by
 obtain⟨m,rfl⟩:=h;exact⟨m+n,World.drewN_drewN _ _ _⟩
theorem jr.size{w w':World}(h:jr w w'):w'.heap.size=w.heap.size:=by obtain⟨m,rfl⟩:=h;rfl
theorem jr.below{w w':World}(h:jr w w')(B:Nat):Below B w w':=by obtain⟨m,rfl⟩:=h;exact⟨rfl,rfl,rfl,Nat.le_refl _,fun _ _=>rfl⟩
theorem jr.new{w w':World}(h:jr w w'):Below w.heap.size w w':=h.below _
theorem Row.BB{w w':World}{k:IntKind}{a:Option Addr}{zs:List Int}(h:Row w k a zs)(d:jr w w'):Row w' k a zs:=by
 obtain⟨m,rfl⟩:=d;exact h.drewN m
theorem aK{a b:Bool}(h:a=b):Ending.returned (.bool a)=.returned (.bool b):=by rw[h]
theorem dz{k:IntKind}{a b:Int}(h:a=b):Ending.returned (.int k a)=.returned (.int k b):=by rw[h]
theorem CG{P:Program}{f:FuncId}{args:Array Value}{w:World}{n:Nat}{v:Value}
  (h:Calls P f args (w.drewN n) fun e w'=>e=.returned v∧w.drewN n=w'):Calls P f args (w.drewN n) fun e w''=>e=.returned v∧∃m,w''=w.drewN m:=
 h.mono fun _ _ ⟨he,hm⟩=>⟨he,n,hm.symm⟩
theorem Row.pQ{w:World}{B:Nat}{e:TypeId}{k:IntKind}{v:Value}{zs:List Int}(h:w.ownsRow B e 1 v zs.length (zs.map (Value.int k))):
  ∃a cap,v=.slice a zs.length cap∧Row w k a zs:=by
 rcases h.2 with⟨h1,h2⟩|⟨g,cap,cur,h1,_,hg,_⟩
 ·refine⟨none,0,by rw[h1,h2],fun i hi=> ?_⟩
  omega
 ·refine⟨some ⟨g,0,none⟩,cap,h1,fun i hi=>⟨g,0,rfl,?_,?_⟩⟩
  ·by_cases hlt:g<w.heap.size
   ·exact hlt
   ·rw[Array.getElem?_eq_none (by omega)] at hg
    cases hg
  ·subst h1
   have hc:=h.cellAt i (by omega)
   rw[Nat.zero_add,hc,List.getElem?_map]
   show Option.map (Value.int k) zs[i]? =some (Value.int k (zs.getD i 0))
   simp[List.getD,hi]
theorem bi{w:World}{B:Nat}{e:TypeId}{size:Nat}{v:Value}{n:Nat}{xs:List Value}(h:w.ownsRow B e size v n xs):∀k,v.ownBlock=some k→B≤k:=by
 intro k hk
 rcases h.2 with⟨h1,_⟩|⟨g,cap,cur,h1,hb,_⟩
 ·subst h1;cases hk
 ·subst h1
  simp[Value.ownBlock] at hk
  omega
theorem Row.lit(w:World)(k:IntKind)(zs:List Int)(t:TypeId):Row (w.alloc (.cells (zs.map (Value.int k)).toArray t)) k (some ⟨w.heap.size,0,none⟩) zs:=by
 intro i hi
 refine⟨w.heap.size,0,rfl,by simp,?_⟩
 rw[Nat.zero_add,World.cell?_alloc_at _ _ _ _ rfl]
 show(zs.map (Value.int k)).toArray[i]? =some (Value.int k (zs.getD i 0))
 simp[List.getD,hi]
theorem FD{B:Nat}{W w1:World}(hb:Below B W w1):(∀b o,b<B→w1.cell? ⟨b,o,none⟩=W.cell? ⟨b,o,none⟩)∧(∀b o,b<B→w1.frozen? ⟨b,o,none⟩=W.frozen? ⟨b,o,none⟩):=
 ⟨fun b o h=>hb.cell (p:=⟨b,o,none⟩) h,fun b o h=>hb.frozen (p:=⟨b,o,none⟩) h⟩
structure Touch (X:Nat→Prop) (w w':World):Prop where
 os:w'.os=w.os
 tape:w'.tape=w.tape
 output:w'.output=w.output
 size:w.heap.size≤w'.heap.size
 block:∀k,k<w.heap.size→¬X k→w'.heap[k]? =w.heap[k]?
theorem Touch.refl(X:Nat→Prop)(w:World):Touch X w w:=⟨rfl,rfl,rfl,Nat.le_refl _,fun _ _ _=>rfl⟩
theorem Touch.trans{X:Nat→Prop}{a b c:World}(h:Touch X a b)(k:Touch X b c):Touch X a c:=
 ⟨k.os.trans h.os,k.tape.trans h.tape,k.output.trans h.output,Nat.le_trans h.size k.size,fun i hi hx=>(k.block i (Nat.lt_of_lt_of_le hi h.size) hx).trans (h.block i hi hx)⟩
theorem Touch.mono{X Y:Nat→Prop}{w w':World}(h:Touch X w w')(hXY:∀k,k<w.heap.size→X k→Y k):Touch Y w w':=
 ⟨h.os,h.tape,h.output,h.size,fun k hk hy=>h.block k hk fun hx=>hy (hXY k hk hx)⟩
theorem Touch.of_below{X:Nat→Prop}{w w':World}(h:Below w.heap.size w w'):Touch X w w':=⟨h.os,h.tape,h.output,h.size,fun k hk _=>h.block k hk⟩
theorem Touch.below{X:Nat→Prop}{w w':World}{B:Nat}(h:Touch X w w')(hX:∀k,X k→B≤k)(hB:B≤w.heap.size):Below B w w':=
 ⟨h.os,h.tape,h.output,h.size,fun k hk=>h.block k (by omega) fun hx=>by have:=hX k hx;omega⟩
theorem Touch.alloc{X:Nat→Prop}{a w:World}(h:Touch X a w)(o:Obj):Touch X a (w.alloc o):=
 ⟨h.os,h.tape,h.output,by have:=h.size;simp;omega,fun k hk hx=>(Below.heap_alloc _ _ _ (Nat.lt_of_lt_of_le hk h.size)).trans (h.block k hk hx)⟩
theorem Touch.setCell{X:Nat→Prop}{a w:World}(h:Touch X a w){p:Addr}(hp:p.block<a.heap.size→X p.block)(u:Value):Touch X a (w.setCell p u):=
 ⟨h.os,h.tape,h.output,by have:=h.size;simpa[World.setCell] using this,fun k hk hx=>(Below.heap_setCell _ _ _ _ (fun e=>by subst e;exact hx (hp hk))).trans (h.block k hk hx)⟩
theorem Touch.drewN{X:Nat→Prop}{a w:World}(h:Touch X a w)(n:Nat):Touch X a (w.drewN n):=⟨h.os,h.tape,h.output,h.size,h.block⟩
theorem Touch.drew{X:Nat→Prop}{a w:World}(h:Touch X a w):Touch X a w.drew:=⟨h.os,h.tape,h.output,h.size,h.block⟩
theorem Touch.cell{X:Nat→Prop}{w w':World}(h:Touch X w w'){p:Addr}(hp:p.block<w.heap.size)(hx:¬X p.block):w'.cell? p=w.cell? p:=World.cell?_of_block (w:=w) (h.block p.block hp hx)
theorem Touch.qL{X:Nat→Prop}{w w':World}(h:Touch X w.drew w'):Touch X w w':=⟨h.os,h.tape,h.output,h.size,h.block⟩
theorem Touch.GG{X:Nat→Prop}{w w':World}{n:Nat}(h:Touch X (w.drewN n) w'):Touch X w w':=⟨h.os,h.tape,h.output,h.size,h.block⟩
def aT(w:World)(b:Nat)(cs:Array Value)(t:TypeId):Prop:=w.heap[b]? =some (.cells cs t (0,0))
theorem aT.lt{w:World}{b:Nat}{cs:Array Value}{t:TypeId}(h:aT w b cs t):b<w.heap.size:=lt_of_block h
theorem aT.cell{w:World}{b:Nat}{cs:Array Value}{t:TypeId}(h:aT w b cs t)(i:Nat){v:Value}(hv:cs[i]? =some v):w.cell? ⟨b,i,none⟩=some v:=by
 unfold aT at h
 simp[World.cell?,h,hv]
theorem aT.free{w:World}{b:Nat}{cs:Array Value}{t:TypeId}(h:aT w b cs t)(i:Nat):w.frozen? ⟨b,i,none⟩=false:=by
 unfold aT at h
 simp[World.frozen?,h]
theorem aT.new(w:World)(cs:Array Value)(t:TypeId):aT (w.alloc (.cells cs t)) w.heap.size cs t:=by
 show(w.heap.push _)[w.heap.size]? =_
 simp
theorem aT.alloc{w:World}{b:Nat}{cs:Array Value}{t:TypeId}(h:aT w b cs t)(o:Obj):aT (w.alloc o) b cs t:=(Below.heap_alloc _ _ _ h.lt).trans h
theorem aT.drewN{w:World}{b:Nat}{cs:Array Value}{t:TypeId}(h:aT w b cs t)(n:Nat):aT (w.drewN n) b cs t:=h
theorem aT.drew{w:World}{b:Nat}{cs:Array Value}{t:TypeId}(h:aT w b cs t):aT w.drew b cs t:=h
theorem aT.other{w:World}{b:Nat}{cs:Array Value}{t:TypeId}(h:aT w b cs t){p:Addr}(hp:p.block≠b)(v:Value):aT (w.setCell p v) b cs t:=(Below.heap_setCell _ _ _ _ (Ne.symm hp)).trans h
theorem aT.set{w:World}{b:Nat}{cs:Array Value}{t:TypeId}(h:aT w b cs t)(i:Nat)(v:Value):aT (w.setCell ⟨b,i,none⟩ v) b (cs.setIfInBounds i v) t:=by
 have hlt:=h.lt
 unfold aT at h
 have h':w.heap[b]=.cells cs t (0,0):=by simpa[Array.getElem?_eq_getElem hlt] using h
 show(w.heap.modify b _)[b]? =_
 rw[Array.getElem?_eq_getElem (by simpa using hlt),Array.getElem_modify_self,h']
 rfl
theorem aT.put{w:World}{b:Nat}{cs cs':Array Value}{t:TypeId}(h:aT w b cs t)(i:Nat)(v:Value)(e:cs.setIfInBounds i v=cs'):aT (w.setCell ⟨b,i,none⟩ v) b cs' t:=e▸h.set i v
theorem aT.touch{X:Nat→Prop}{w w':World}{b:Nat}{cs:Array Value}{t:TypeId}(h:aT w b cs t)(k:Touch X w w')(hx:¬X b):aT w' b cs t:=(k.block b h.lt hx).trans h
theorem aT.below{w w':World}{b B:Nat}{cs:Array Value}{t:TypeId}(h:aT w b cs t)(k:Below B w w')(hb:b<B):aT w' b cs t:=(k.block b hb).trans h
theorem aT.later{w w':World}{b:Nat}{cs:Array Value}{t:TypeId}(h:aT w b cs t)(k:Below w.heap.size w w'):aT w' b cs t:=(k.block b h.lt).trans h
def kF(X:Nat→Prop)(a:Option Addr)(zs:List Int):Prop:=0<zs.length→∀b off,a=some ⟨b,off,none⟩→¬X b
theorem Row.touch{X:Nat→Prop}{w w':World}{k:IntKind}{a:Option Addr}{zs:List Int}(h:Row w k a zs)(t:Touch X w w')(hx:kF X a zs):Row w' k a zs:=by
 intro i hi
 obtain⟨b,off,ha,hlt,hc⟩:=h i hi
 exact⟨b,off,ha,Nat.lt_of_lt_of_le hlt t.size,(t.cell (p:=⟨b,off+i,none⟩) hlt (hx (by omega) b off ha)).trans hc⟩
theorem kF.mono{X Y:Nat→Prop}{a:Option Addr}{zs:List Int}(h:kF X a zs)(hXY:∀k,Y k→X k):kF Y a zs:=fun h0 b off ha hy=>h h0 b off ha (hXY b hy)
theorem Row.out{w:World}{k:IntKind}{a:Option Addr}{zs:List Int}(h:Row w k a zs){X:Nat→Prop}(hX:∀k,X k→w.heap.size≤k):kF X a zs:=by
 intro h0 b off ha hx
 obtain⟨b',off',ha',hlt,_⟩:=h 0 h0
 rw[ha] at ha'
 cases ha'
 have:=hX b hx
 omega
def sP(f:Nat→Value)(n:Nat):Array Value:=((List.range n).map f).toArray
theorem JB{f:Nat→Value}{n i:Nat}(h:i<n):(sP f n)[i]? =some (f i):=by simp[sP,h]
theorem JC(f:Nat→Value)(n i:Nat)(v:Value):(sP f n).setIfInBounds i v=sP (fun j=>if j=i then v else f j) n:=by
 unfold sP
 apply Array.toList_inj.1
 rw[Array.toList_setIfInBounds]
 apply List.ext_getElem
 ·simp
 ·intro j h1 h2
  have hj:j<n:=by simpa using h2
  simp[List.getElem_set]
  by_cases e:i=j
  ·subst e;simp
  ·have:¬j=i:=fun h=>e h.symm
   simp[e,this]
theorem DZ{f g:Nat→Value}{n:Nat}(h:∀i,i<n→f i=g i):sP f n=sP g n:=by
 unfold sP
 congr 1
 exact List.map_congr_left (fun i hi=>h i (List.mem_range.1 hi))
def gV(w:World)(k:IntKind)(a:Option Addr)(zs:List Int):Prop:=
 zs.length=0∨∃b cs t,a=some ⟨b,0,none⟩∧aT w b cs t∧∀i,i<zs.length→cs[i]? =some (.int k (nth zs i))
theorem gV.row{w:World}{k:IntKind}{a:Option Addr}{zs:List Int}(h:gV w k a zs):Row w k a zs:=by
 intro i hi
 rcases h with h|⟨b,cs,t,rfl,hb,hc⟩
 ·omega
 ·exact⟨b,0,rfl,hb.lt,by rw[Nat.zero_add];exact hb.cell i (hc i hi)⟩
theorem gV.later{w w':World}{k:IntKind}{a:Option Addr}{zs:List Int}(h:gV w k a zs)(hb:Below w.heap.size w w'):gV w' k a zs:=by
 rcases h with h|⟨b,cs,t,rfl,hk,hc⟩
 ·exact .inl h
 ·exact .inr ⟨b,cs,t,rfl,hk.later hb,hc⟩
theorem gV.BB{w w':World}{k:IntKind}{a:Option Addr}{zs:List Int}(h:gV w k a zs)(hb:jr w w'):gV w' k a zs:=h.later hb.new
theorem gV.alloc{w:World}{k:IntKind}{a:Option Addr}{zs:List Int}(h:gV w k a zs)(o:Obj):gV (w.alloc o) k a zs:=h.later (ak w o)
theorem gV.touch{X:Nat→Prop}{w w':World}{k:IntKind}{a:Option Addr}{zs:List Int}(h:gV w k a zs)(t:Touch X w w')(hx:kF X a zs):gV w' k a zs:=by
 rcases h with h|⟨b,cs,t',rfl,hk,hc⟩
 ·exact .inl h
 ·by_cases h0:zs.length=0
  ·exact .inl h0
  ·exact .inr ⟨b,cs,t',rfl,hk.touch t (hx (by omega) b 0 rfl),hc⟩
theorem gV.set{w:World}{k:IntKind}{zs:List Int}{b i:Nat}(h:gV w k (some ⟨b,0,none⟩) zs)(hi:i<zs.length)(v:Int):gV (w.setCell ⟨b,i,none⟩ (.int k v)) k (some ⟨b,0,none⟩) (zs.set i v):=by
 rcases h with h|⟨b',cs,t,e,hk,hc⟩
 ·omega
 ·cases e
  refine .inr ⟨b,_,t,rfl,hk.set i (.int k v),fun j hj=> ?_⟩
  have hj':j<zs.length:=by simpa using hj
  have hcj:=hc j hj'
  have hjs:j<cs.size:=(Array.getElem?_eq_some_iff.1 hcj).1
  by_cases e:j=i
  ·subst e
   rw[Array.getElem?_setIfInBounds_self_of_lt hjs]
   unfold nth;simp[List.getD,hi]
  ·rw[Array.getElem?_setIfInBounds_ne (fun h=>e h.symm),hcj]
   unfold nth
   rw[List.getD_eq_getElem?_getD,List.getD_eq_getElem?_getD,List.getElem?_set_ne (fun h=>e h.symm)]
theorem gV.at{w:World}{k:IntKind}{a:Option Addr}{zs:List Int}(h:gV w k a zs){i:Nat}(hi:i<zs.length):∃b,a=some ⟨b,0,none⟩∧b<w.heap.size∧w.cell? ⟨b,i,none⟩=some (.int k (nth zs i))∧w.frozen? ⟨b,i,none⟩=false:=by
 rcases h with h|⟨b,cs,t,rfl,hk,hc⟩
 ·omega
 ·exact⟨b,rfl,hk.lt,hk.cell i (hc i hi),hk.free i⟩
theorem gV.pQ{w:World}{B:Nat}{e:TypeId}{k:IntKind}{v:Value}{zs:List Int}(h:w.ownsRow B e 1 v zs.length (zs.map (Value.int k))):∃a cap,v=.slice a zs.length cap∧gV w k a zs:=by
 rcases h.2 with⟨h1,h2⟩|⟨g,cap,cur,h1,_,hg,_,_,_,ht⟩
 ·exact⟨none,0,by rw[h1,h2],.inl h2⟩
 ·refine⟨some ⟨g,0,none⟩,cap,h1,.inr ⟨g,cur,e,rfl,hg,fun i hi=> ?_⟩⟩
  have:(cur.toList.take (zs.length*1))[i]? =(zs.map (Value.int k))[i]? :=by rw[ht]
  rw[List.getElem?_take,if_pos (by omega),List.getElem?_map] at this
  rw[←Array.getElem?_toList,this]
  unfold nth
  simp[List.getD,hi]
def kH(n lo hi:Int):Int:=if hi<n then hi else if n<lo then lo else n
def cnt(n:Int):Int:=kH n 0 1125899906842624
def Jj(n:Int):Int:=if cnt n=0 then 1 else cnt n
def ji(a b:Int):Int:=if 0<b∧1125899906842624/b<a then 1125899906842624 else a*b
def JP(a b:Int):Int:=cnt a/Jj b
def PU(a b:Int):Int:=(cnt a+Jj b-1)/Jj b
theorem fA(n:Int):0≤cnt n∧cnt n≤1125899906842624:=by
 unfold cnt kH;split
 ·omega
 ·split<;>omega
theorem iK{n:Int}(h0:0≤n)(h1:n≤1125899906842624):cnt n=n:=by
 unfold cnt kH;rw[if_neg (by omega),if_neg (by omega)]
theorem Ol{n:Int}(h1:n≤0):cnt n=0:=by
 unfold cnt kH;rw[if_neg (by omega)];split
 ·rfl
 ·omega
theorem pz(n:Int):cnt n=max 0 (min n 1125899906842624):=by
 unfold cnt kH;split
 ·omega
 ·split<;>omega
theorem JI(n:Int):1≤Jj n∧Jj n≤1125899906842624:=by
 have:=fA n
 unfold Jj;split<;>omega
theorem Me(n:Int):Jj n=max (cnt n) 1:=by
 have:=fA n
 unfold Jj;split<;>omega
theorem mH{a b:Int}(ha:0≤a)(hb:0≤b)(ha2:a≤1125899906842624)(hb2:b≤1125899906842624):ji a b=min 1125899906842624 (a*b):=by
 unfold ji
 by_cases h:0<b∧1125899906842624/b<a
 ·rw[if_pos h]
  have h1:=Int.emod_add_mul_ediv 1125899906842624 b
  have h2:=Int.emod_lt_of_pos 1125899906842624 h.1
  have h3:b*(1125899906842624/b+1)≤b*a:=Int.mul_le_mul_of_nonneg_left (by omega) hb
  rw[Int.mul_add,Int.mul_comm b a] at h3
  omega
 ·rw[if_neg h]
  by_cases hb0:b=0
  ·subst hb0;rw[Int.mul_zero];decide
  ·have hp:0<b:=by omega
   have h4:a≤1125899906842624/b:=by
    by_cases h5:1125899906842624/b<a
    ·exact absurd ⟨hp,h5⟩ h
    ·omega
   have h5:b*a≤b*(1125899906842624/b):=Int.mul_le_mul_of_nonneg_left h4 hb
   have h6:=Int.mul_ediv_self_le (x:=1125899906842624) (k:=b) (by omega)
   rw[Int.mul_comm b a] at h5
   omega
theorem Lu{a b:Int}(ha:0≤a)(hb:0≤b)(ha2:a≤1125899906842624)(hb2:b≤1125899906842624):0≤ji a b∧ji a b≤1125899906842624:=by
 rw[mH ha hb ha2 hb2]
 have:=Int.mul_nonneg ha hb
 omega
def iW(l:List Int):Int:=l.foldl (fun s n=>cnt (s+cnt n)) 0
def lw(l:List Int):Int:=l.foldl (fun s n=>ji s (cnt n)) 1
def qh(l:List Int)(k:Nat):Int:=iW (l.take k)
def qm(l:List Int)(k:Nat):Int:=lw (l.take k)
theorem sD{l:List Int}{k:Nat}(h:k<l.length):l.take (k+1)=l.take k++[nth l k]:=by
 rw[List.take_succ_eq_append_getElem h];unfold nth;simp[List.getD,h]
theorem vT{l:List Int}{k:Nat}(h:k<l.length):qh l (k+1)=cnt (qh l k+cnt (nth l k)):=by
 unfold qh iW;rw[sD h,List.foldl_append];rfl
theorem yH(l:List Int):qh l l.length=iW l:=by unfold qh;rw[List.take_length]
theorem wS{l:List Int}{k:Nat}(h:k<l.length):qm l (k+1)=ji (qm l k) (cnt (nth l k)):=by
 unfold qm lw;rw[sD h,List.foldl_append];rfl
theorem za(l:List Int):qm l l.length=lw l:=by unfold qm;rw[List.take_length]
def su:List Int→Int
 |[]=>0
 |n::l=>cnt n+su l
def mo:List Int→Int
 |[]=>1
 |n::l=>cnt n*mo l
theorem Gw(l:List Int):0≤su l:=by
 induction l with
 |nil=>exact Int.le_refl _
 |cons n l ih=>have:=fA n;show 0≤cnt n+su l;omega
theorem Cx(l:List Int):0≤mo l:=by
 induction l with
 |nil=>decide
 |cons n l ih=>exact Int.mul_nonneg (fA n).1 ih
theorem Da(l m:List Int):su (l++m)=su l+su m:=by
 induction l with
 |nil=>show su m=0+su m;omega
 |cons n l ih=>show cnt n+su (l++m)=cnt n+su l+su m;rw[ih];omega
theorem Ag(l m:List Int):mo (l++m)=mo l*mo m:=by
 induction l with
 |nil=>show mo m=1*mo m;omega
 |cons n l ih=>show cnt n*mo (l++m)=cnt n*mo l*mo m;rw[ih,Int.mul_assoc]
theorem Lf(n:Int):su [n]=cnt n:=by show cnt n+0=cnt n;omega
theorem IE(n:Int):mo [n]=cnt n:=by show cnt n*1=cnt n;omega
theorem Jw(l:List Int):iW l=min 1125899906842624 (su l):=by
 have h:∀k,k≤l.length→qh l k=min 1125899906842624 (su (l.take k)):=by
  intro k
  induction k with
  |zero=>intro _;rfl
  |succ k ih=>
   intro hk
   rw[vT hk,ih (by omega),sD hk,Da,Lf,pz]
   have h1:=Gw (l.take k)
   have h2:=fA (nth l k)
   omega
 have:=h l.length (Nat.le_refl _)
 rwa[yH,List.take_length] at this
theorem FC(l:List Int):0≤iW l∧iW l≤1125899906842624:=by
 rw[Jw];have:=Gw l;omega
theorem Jy(l:List Int)(k:Nat):0≤qh l k∧qh l k≤1125899906842624:=FC _
theorem min_mul{p c:Int}(hp:0≤p)(hc:0≤c):min 1125899906842624 (min 1125899906842624 p*c)=min 1125899906842624 (p*c):=by
 by_cases h:p≤1125899906842624
 ·rw[show min 1125899906842624 p=p by omega]
 ·rw[show min 1125899906842624 p=1125899906842624 by omega]
  by_cases h0:c=0
  ·subst h0;rw[Int.mul_zero,Int.mul_zero]
  ·have h1:1125899906842624*1≤1125899906842624*c:=Int.mul_le_mul_of_nonneg_left (by omega) (by decide)
   have h2:1125899906842624*c≤p*c:=Int.mul_le_mul_of_nonneg_right (by omega) hc
   omega
theorem EB(l:List Int):∀k,k≤l.length→qm l k=min 1125899906842624 (mo (l.take k)):=by
 intro k
 induction k with
 |zero=>intro _;rfl
 |succ k ih=>
  intro hk
  have h1:=Cx (l.take k)
  have h2:=fA (nth l k)
  rw[wS hk,ih (by omega),sD hk,Ag,IE,mH (by omega) h2.1 (by omega) h2.2,min_mul h1 h2.1]
theorem Ir(l:List Int):lw l=min 1125899906842624 (mo l):=by
 have:=EB l l.length (Nat.le_refl _)
 rwa[za,List.take_length] at this
theorem MQ(l:List Int):0≤lw l∧lw l≤1125899906842624:=by
 rw[Ir];have:=Cx l;omega
theorem KH(l:List Int)(k:Nat):0≤qm l k∧qm l k≤1125899906842624:=MQ _
theorem GK(l:List Int)(n:Int):iW (l++[n])=cnt (iW l+cnt n):=by
 unfold iW;rw[List.foldl_append];rfl
theorem Bb(a b:Int):iW [a,b]=cnt (cnt a+cnt b):=by
 show cnt (cnt (0+cnt a)+cnt b)=_
 rw[Int.zero_add,iK (fA a).1 (fA a).2]
theorem Cm(a b:Int):lw [a,b]=ji (cnt a) (cnt b):=by
 show ji (ji 1 (cnt a)) (cnt b)=_
 rw[mH (by decide) (fA a).1 (by decide) (fA a).2,Int.one_mul]
 have:=fA a
 rw[show min 1125899906842624 (cnt a)=cnt a by omega]
structure May (N W R K:Int):Prop where
 n0:1≤N
 n1:N≤1048576
 w0:16≤W
 w1:W≤256
 r0:1≤R
 r1:R≤4096
 k0:1≤K
 k1:K≤65536
 nw:N*W≤4194304
theorem JK{n lo hi:Int}(h0:lo≤n)(h1:n≤hi):kH n lo hi=n:=by
 unfold kH;rw[if_neg (by omega),if_neg (by omega)]
theorem mP{a b:Int}(ha:0≤a)(hb:0≤b)(h:a+b≤1125899906842624):iW [a,b]=a+b:=by
 rw[Bb,iK ha (by omega),iK hb (by omega),iK (by omega) h]
theorem Ma{a b c:Int}(ha:0≤a)(hb:0≤b)(hc:0≤c)(h:a+b+c≤1125899906842624):iW [a,b,c]=a+b+c:=by
 have:=GK [a,b] c
 rw[show[a,b]++[c]=[a,b,c] from rfl,mP ha hb (by omega),iK hc (by omega),iK (by omega) h] at this
 exact this
theorem lG{a b:Int}(ha:0≤a)(hb:0≤b)(h1:a≤1125899906842624)(h2:b≤1125899906842624)(h:a*b≤1125899906842624):lw [a,b]=a*b:=by
 rw[Cm,iK ha h1,iK hb h2,mH ha hb h1 h2]
 omega
theorem LG{a b:Int}(ha:0≤a)(h1:a≤1125899906842624)(hb:1≤b)(h2:b≤1125899906842624):PU a b=(a+b-1)/b:=by
 have e:Jj b=b:=by unfold Jj;rw[iK (by omega) h2,if_neg (by omega)]
 unfold PU
 rw[e,iK ha h1]
def AX(N W R:Int):Int:=24+R+N*W
def iX(N W:Int):Int:=N*(W+1)
def iL(N W:Int):Int:=3*(N*(W+1))+4
def aZ(W:Int):Int:=(W-8)*(W-1)
def DV(a b:Int):Int:=(a+b-1)/b
def OE(N W K:Int):Int:=2*DV (iL N W) K+2*(W-7)
def Ao(N W K:Int):Int:=DV (2*iL N W+iX N W) K+2
theorem zb{a b A B:Int}(ha:0≤a)(hb:0≤b)(h1:a≤A)(h2:b≤B):0≤a*b∧a*b≤A*B:=
 ⟨Int.mul_nonneg ha hb,Int.mul_le_mul h1 h2 hb (by omega)⟩
theorem Gh{N W R K:Int}(h:May N W R K):16≤N*W∧N*W≤4194304:=by
 have:=Int.mul_le_mul h.n0 h.w0 (by omega) (by have:=h.n0;omega)
 exact⟨by omega,h.nw⟩
theorem JS(N W:Int):iX N W=N*W+N:=by unfold iX;rw[Int.mul_add];omega
theorem BA{N W R K:Int}(h:May N W R K):17≤iX N W∧iX N W≤5242880:=by
 have:=Gh h
 have:=h.n0;have:=h.n1
 rw[JS];omega
theorem JX(N W:Int):iL N W=3*iX N W+4:=rfl
theorem JW{N W R K:Int}(h:May N W R K):55≤iL N W∧iL N W≤15728644:=by
 have:=BA h
 rw[JX];omega
theorem iU{W:Int}(h0:16≤W)(h1:W≤256):120≤aZ W∧aZ W≤63240:=by
 have a:=Int.mul_le_mul (show(8:Int)≤W-8 by omega) (show(15:Int)≤W-1 by omega) (by omega) (by omega)
 have b:=Int.mul_le_mul (show W-8≤248 by omega) (show W-1≤255 by omega) (by omega) (by omega)
 unfold aZ;omega
theorem Fu{a b:Int}(ha:0≤a)(hb:1≤b):0≤DV a b∧DV a b≤a∧a≤b*DV a b∧b*DV a b<a+b:=by
 unfold DV
 have h1:=Int.emod_add_mul_ediv (a+b-1) b
 have h2:=Int.emod_nonneg (a+b-1) (show b≠0 by omega)
 have h3:=Int.emod_lt_of_pos (a+b-1) (show 0<b by omega)
 have h4:0≤(a+b-1)/b:=Int.ediv_nonneg (by omega) (by omega)
 refine⟨h4,?_,by omega,by omega⟩
 by_cases h5:a=0
 ·subst h5
  have:(0+b-1)/b=0:=Int.ediv_eq_zero_of_lt (by omega) (by omega)
  omega
 ·have h6:(a+b-1)/b<a+1:=by
   apply Int.ediv_lt_of_lt_mul (by omega)
   have h7:a*1≤a*b:=Int.mul_le_mul_of_nonneg_left hb ha
   have:(a+1)*b=a*b+b:=by rw[Int.add_mul];omega
   omega
  omega
def pw(n:Int):Int:=2^n.toNat
theorem oO(n:Int):0<pw n:=Int.pow_pos (by decide)
def dL(at' n:Int):Bool:=decide (0≤at'∧1≤n∧n≤32∧at'≤32-n)
theorem jB{a n:Int}(h:dL a n=true):0≤a∧1≤n∧n≤32∧a≤32-n:=of_decide_eq_true h
theorem IB{a n:Int}(h:dL a n=false):¬(0≤a∧1≤n∧n≤32∧a≤32-n):=of_decide_eq_false h
def iy(w a n:Int):Int:=if dL a n=true then w/pw a%pw n else 0
def tq(v n:Int):Bool:=decide (v<pw n)
def CB(w a n v:Int):Int:=w-iy w a n*pw a+v*pw a
theorem Oa{m n:Int}(h:m≤n):pw m≤pw n:=by
 unfold pw
 have h1:m.toNat≤n.toNat:=by omega
 have:=Nat.pow_le_pow_right (n:=2) (by decide) h1
 exact_mod_cast this
theorem Ps{m n:Int}(hm:0≤m)(hn:0≤n):pw (m+n)=pw m*pw n:=by
 unfold pw
 rw[Int.toNat_add hm hn,Int.pow_add]
theorem KZ:pw 32=4294967296:=by decide
theorem Qn:pw 0=1:=by decide
theorem Pt{n:Int}(h:n≤0):pw n=1:=by
 unfold pw
 have:n.toNat=0:=by omega
 rw[this];rfl
theorem Gn{n:Int}(h:n≤32):pw n≤4294967296:=by rw[←KZ];exact Oa h
theorem Nj{n:Int}(h:32≤n):4294967296≤pw n:=by rw[←KZ];exact Oa h
theorem MK{n:Int}(h1:1≤n)(h2:n≤32):(4294967295:Int)/2^(32-n).toNat=pw n-1:=by
 have e:pw n*pw (32-n)=4294967296:=by
  rw[←Ps (by omega) (by omega),show n+(32-n)=32 by omega,KZ]
 have hp:=oO (32-n)
 have hq:=oO n
 show(4294967295:Int)/pw (32-n)=pw n-1
 have e2:(4294967295:Int)=(pw (32-n)-1)+(pw n-1)*pw (32-n):=by
  rw[Int.sub_mul,e];omega
 rw[e2,Int.add_mul_ediv_right _ _ (by omega),Int.ediv_eq_zero_of_lt (by omega) (by omega)]
 omega
theorem Mv{w a n:Int}(h0:0≤w):0≤iy w a n:=by
 unfold iy;split
 ·exact Int.emod_nonneg _ (by have:=oO n;omega)
 ·exact Int.le_refl _
theorem Mw{w a n:Int}:iy w a n<pw n:=by
 unfold iy;split
 ·exact Int.emod_lt_of_pos _ (oO n)
 ·exact oO n
theorem Mt{w a n:Int}(h0:0≤w)(h1:w≤4294967295):iy w a n≤4294967295:=by
 by_cases hp:dL a n=true
 ·have h:=jB hp
  have:=Mw (w:=w) (a:=a) (n:=n)
  have:=Gn h.2.2.1
  omega
 ·have:iy w a n=0:=by unfold iy;rw[if_neg hp]
  omega
theorem Mx{w a n:Int}(h0:0≤w)(h1:w≤4294967295)(hp:dL a n=true):
  bits .and .u32 (w/2^a.toNat) (pw n-1)=iy w a n:=by
 obtain⟨ha,hn1,hn2,hd⟩:=jB hp
 have hle:w/pw a≤w:=Int.ediv_le_self _ h0
 have hge:0≤w/pw a:=Int.ediv_nonneg h0 (Int.le_of_lt (oO a))
 have hm:=Gn hn2
 have hp0:=oO n
 show bits .and .u32 (w/pw a) (pw n-1)=_
 rw[u32_and _ _ hge (by omega) (by omega) (by omega)]
 unfold iy
 rw[if_pos hp]
 obtain⟨X,hX⟩:=Int.eq_ofNat_of_zero_le hge
 rw[hX]
 have e:(pw n-1).toNat=2^n.toNat-1:=by
  unfold pw
  have:((2:Int)^n.toNat)=((2^n.toNat:Nat):Int):=by simp
  rw[this];omega
 rw[e,Int.toNat_natCast,Nat.and_two_pow_sub_one_eq_mod]
 unfold pw
 simp
theorem EW(w a n:Nat):w=(w/2^(a+n))*2^(a+n)+(w/2^a%2^n)*2^a+w%2^a:=by
 have h1:=Nat.div_add_mod w (2^a)
 have h2:=Nat.div_add_mod (w/2^a) (2^n)
 rw[Nat.div_div_eq_div_mul,←Nat.pow_add] at h2
 have h3:2^a*(2^n*(w/2^(a+n)))=w/2^(a+n)*2^(a+n):=by
  rw[Nat.pow_add,←Nat.mul_assoc,Nat.mul_comm]
 have h4:2^a*(w/2^a)=2^a*(2^n*(w/2^(a+n)))+2^a*(w/2^a%2^n):=by
  rw[←Nat.mul_add,h2]
 have h5:2^a*(w/2^a%2^n)=w/2^a%2^n*2^a:=Nat.mul_comm _ _
 omega
theorem vM(w a n v:Nat)(hv:v<2^n)(hw:w<2^32)(hn:a+n≤32):
  (w &&& (4294967295-(2^n-1)*2^a)) ||| v*2^a=(w/2^(a+n))*2^(a+n)+v*2^a+w%2^a:=by
 have hmul:(2^n-1)*2^a<2^32:=by
  have h1:(2^n-1)*2^a<2^n*2^a:=Nat.mul_lt_mul_of_pos_right (by have:=Nat.two_pow_pos n;omega) (Nat.two_pow_pos a)
  rw[←Nat.pow_add] at h1
  exact Nat.lt_of_lt_of_le h1 (Nat.pow_le_pow_right (by decide) (by omega))
 have hlow:v*2^a+w%2^a<2^(a+n):=by
  have h1:(v+1)*2^a≤2^n*2^a:=Nat.mul_le_mul_right _ hv
  rw[Nat.add_mul,Nat.one_mul] at h1
  have h2:=Nat.mod_lt w (Nat.two_pow_pos a)
  rw[Nat.pow_add,Nat.mul_comm (2^a)]
  omega
 apply Nat.eq_of_testBit_eq
 intro j
 have e1:(4294967295-(2^n-1)*2^a)=2^32-((2^n-1)*2^a+1):=by omega
 rw[Nat.testBit_or,Nat.testBit_and,e1,Nat.testBit_two_pow_sub_succ hmul]
 rw[Nat.add_assoc,Nat.mul_comm (w/2^(a+n)),Nat.testBit_two_pow_mul_add _ hlow,Nat.mul_comm v,Nat.testBit_two_pow_mul_add _ (Nat.mod_lt w (Nat.two_pow_pos a))]
 rw[Nat.mul_comm (2^n-1),Nat.testBit_two_pow_mul,Nat.testBit_two_pow_mul,Nat.testBit_two_pow_sub_one,Nat.testBit_mod_two_pow,Nat.testBit_div_two_pow]
 by_cases hj:j<a
 ·have h1:¬a≤j:=by omega
  have h2:j<a+n:=by omega
  have h3:j<32:=by omega
  simp[hj,h1,h2,h3]
 ·by_cases hj2:j<a+n
  ·have h1:a≤j:=by omega
   have h2:j-a<n:=by omega
   simp[hj,hj2,h1,h2]
  ·have h1:a≤j:=by omega
   have h2:¬j-a<n:=by omega
   have h3:v.testBit (j-a)=false:=by
    apply Nat.testBit_lt_two_pow
    exact Nat.lt_of_lt_of_le hv (Nat.pow_le_pow_right (by decide) (by omega))
   have h4:a+n+(j-(a+n))=j:=by omega
   have h6:j-(a+n)+(a+n)=j:=by omega
   by_cases h5:j<32
   ·simp[hj,hj2,h1,h2,h3,h4,h5,h6]
   ·have hwj:w.testBit j=false:=by
     apply Nat.testBit_lt_two_pow
     exact Nat.lt_of_lt_of_le hw (Nat.pow_le_pow_right (by decide) (by omega))
    simp[hj,hj2,h1,h2,h3,h4,h5,h6,hwj]
theorem Pj{w a n v:Int}(h0:0≤w)(h1:w≤4294967295)(hv0:0≤v)(hp:dL a n=true)(hf:tq v n=true):
  bits .or .u32 (bits .andNot .u32 w (IntKind.u32.wrap ((pw n-1)*2^a.toNat))) (IntKind.u32.wrap (v*2^a.toNat))=CB w a n v:=by
 obtain⟨ha,hn1,hn2,hd⟩:=jB hp
 have hv:v<pw n:=of_decide_eq_true hf
 obtain⟨A,rfl⟩:=Int.eq_ofNat_of_zero_le ha
 obtain⟨N,rfl⟩:=Int.eq_ofNat_of_zero_le (by omega:0≤n)
 obtain⟨W,rfl⟩:=Int.eq_ofNat_of_zero_le h0
 obtain⟨V,rfl⟩:=Int.eq_ofNat_of_zero_le hv0
 have eN:pw (N:Int)=((2^N:Nat):Int):=by unfold pw;simp
 have eA:pw (A:Int)=((2^A:Nat):Int):=by unfold pw;simp
 have eA2:(2:Int)^(A:Int).toNat=((2^A:Nat):Int):=by simp
 have hV:V<2^N:=by rw[eN] at hv;exact_mod_cast hv
 have hs:A+N≤32:=by omega
 have hW:W<2^32:=by omega
 have hpos:=Nat.two_pow_pos N
 have eM:(pw (N:Int)-1)*2^(A:Int).toNat=(((2^N-1)*2^A:Nat):Int):=by
  rw[eN,eA2,Int.natCast_mul,Int.natCast_sub hpos];simp
 have eV:(V:Int)*2^(A:Int).toNat=((V*2^A:Nat):Int):=by rw[eA2,Int.natCast_mul]
 have bM:(2^N-1)*2^A<2^32:=by
  have h1:(2^N-1)*2^A<2^N*2^A:=Nat.mul_lt_mul_of_pos_right (by omega) (Nat.two_pow_pos A)
  rw[←Nat.pow_add] at h1
  exact Nat.lt_of_lt_of_le h1 (Nat.pow_le_pow_right (by decide) (by omega))
 have bV:V*2^A<2^32:=by
  have h1:V*2^A<2^N*2^A:=Nat.mul_lt_mul_of_pos_right hV (Nat.two_pow_pos A)
  rw[←Nat.pow_add] at h1
  exact Nat.lt_of_lt_of_le h1 (Nat.pow_le_pow_right (by decide) (by omega))
 rw[eM,eV,IntKind.wrap_u32,IntKind.wrap_u32]
 rw[show((((2^N-1)*2^A:Nat):Int))%4294967296=(((2^N-1)*2^A:Nat):Int) from by omega]
 rw[show((V*2^A:Nat):Int)%4294967296=((V*2^A:Nat):Int) from by omega]
 rw[u32_andNot _ _ (by omega) (by omega) (by omega) (by omega)]
 have hle:W &&& (4294967295-(2^N-1)*2^A)≤W:=Nat.and_le_left
 rw[Int.toNat_natCast,Int.toNat_natCast,u32_or _ _ (by omega) (by omega) (by omega) (by omega),Int.toNat_natCast,Int.toNat_natCast,vM W A N V hV hW hs]
 unfold CB iy
 rw[if_pos hp,eN,eA]
 have hsw:=EW W A N
 have e1:((W:Int)/((2^A:Nat):Int)%((2^N:Nat):Int))=((W/2^A%2^N:Nat):Int):=by simp
 rw[e1,←Int.natCast_mul,←Int.natCast_mul]
 omega
theorem JZ{v n:Int}(h0:0≤v)(h1:v≤4294967295)(hn:0≤n):(v/2^min n.toNat 32==0)=tq v n:=by
 unfold tq
 rw[Bool.eq_iff_iff,beq_iff_eq,decide_eq_true_iff]
 by_cases h:n≤32
 ·have e:min n.toNat 32=n.toNat:=by omega
  rw[e]
  show v/pw n=0↔v<pw n
  constructor
  ·intro hz
   have h2:=Int.lt_ediv_add_one_mul_self v (oO n)
   rw[hz] at h2
   omega
  ·intro hlt;exact Int.ediv_eq_zero_of_lt h0 hlt
 ·have e:min n.toNat 32=32:=by omega
  rw[e]
  have hz:v/2^32=0:=Int.ediv_eq_zero_of_lt h0 (by omega)
  have:=Nj (n:=n) (by omega)
  constructor
  ·intro _;omega
  ·intro _;exact hz
theorem JY{v n:Int}(h0:0≤v)(hn:n≤0):(v==0)=tq v n:=by
 unfold tq
 rw[Pt hn,Bool.eq_iff_iff,beq_iff_eq,decide_eq_true_iff]
 omega
def sumTo(zs:List Int):Nat→Int
 |0=>0
 |k+1=>sumTo zs k+nth zs k
def nI(x:Int)(zs:List Int)(k:Nat):List Int:=(List.range k).map fun j=>iy x (sumTo zs j) (nth zs j)
theorem oV(x:Int)(zs:List Int)(k:Nat):(nI x zs k).length=k:=by simp[nI]
set_option maxHeartbeats 400000 in
theorem oI(n:Int)(w:World)(h1:1≤n)(h2:n≤32):
  Calls Tryz.prog 230 #[.int .i64 n] w fun e w'=>e=.returned (.bool true)∧w=w':=by
 go_enter Tryz.func230,Tryz.ntmps230
 go_wp2
 go_ret
 exact⟨rfl,rfl⟩
set_option maxHeartbeats 400000 in
theorem Ej(n:Int)(w:World)(h:¬(1≤n∧n≤32)):
  Calls Tryz.prog 230 #[.int .i64 n] w fun e w'=>e=.returned (.bool false)∧w=w':=by
 by_cases h1:1≤n
 ·have h2:¬n≤32:=fun h2=>h ⟨h1,h2⟩
  clear h
  go_enter Tryz.func230,Tryz.ntmps230
  go_wp2
  go_ret
  exact⟨rfl,rfl⟩
 ·clear h
  go_enter Tryz.func230,Tryz.ntmps230
  go_wp2
  go_ret
  exact⟨rfl,rfl⟩
set_option maxHeartbeats 400000 in
theorem oH(a n:Int)(w:World)(hp:dL a n=true):
  Calls Tryz.prog 217 #[.int .i64 a,.int .i64 n] w fun e w'=>e=.returned (.bool true)∧w=w':=by
 obtain⟨h0,h1,h2,h3⟩:=jB hp
 clear hp
 go_enter Tryz.func217,Tryz.ntmps217
 go_wp2_with (go_at_call 230;refine(oI _ _ (by omega) (by omega)).mono ?_;rintro e w' ⟨rfl,rfl⟩)
 go_ret
 exact⟨rfl,rfl⟩
set_option maxHeartbeats 400000 in
theorem wH(a n:Int)(w:World)(hp:dL a n=false):
  Calls Tryz.prog 217 #[.int .i64 a,.int .i64 n] w fun e w'=>e=.returned (.bool false)∧w=w':=by
 have h:=IB hp
 clear hp
 by_cases hw:1≤n∧n≤32
 ·obtain⟨h1,h2⟩:=hw
  by_cases h0:0≤a
  ·have h3:¬a≤32-n:=fun h3=>h ⟨h0,h1,h2,h3⟩
   clear h
   go_enter Tryz.func217,Tryz.ntmps217
   go_wp2_with (go_at_call 230;refine(oI _ _ (by omega) (by omega)).mono ?_;rintro e w' ⟨rfl,rfl⟩)
   go_ret
   exact⟨aK (decide_eq_false (by omega)),rfl⟩
  ·clear h
   go_enter Tryz.func217,Tryz.ntmps217
   go_wp2_with (go_at_call 230;refine(oI _ _ (by omega) (by omega)).mono ?_;rintro e w' ⟨rfl,rfl⟩)
   go_ret
   exact⟨rfl,rfl⟩
 ·clear h
  have hW:Hid (¬(1≤n∧n≤32)):=hw
  clear hw
  go_enter Tryz.func217,Tryz.ntmps217
  go_wp2_with (go_at_call 230;refine(Ej _ _ hW.out).mono ?_;rintro e w' ⟨rfl,rfl⟩)
  go_ret
  exact⟨rfl,rfl⟩
set_option maxHeartbeats 400000 in
theorem uH(n:Int)(w:World)(h1:1≤n)(h2:n≤32):
  Calls Tryz.prog 218 #[.int .i64 n] w fun e w'=>e=.returned (.int .u32 (pw n-1))∧w=w':=by
 go_enter Tryz.func218,Tryz.ntmps218
 go_wp2
 go_ret
 exact⟨dz (MK h1 h2),rfl⟩
set_option maxHeartbeats 400000 in
theorem BI(v n:Int)(w:World)(h0:0≤v)(h1:v≤4294967295):
  Calls Tryz.prog 224 #[.int .u32 v,.int .i64 n] w fun e w'=>e=.returned (.bool (tq v n))∧w=w':=by
 by_cases hn:0≤n
 ·go_enter Tryz.func224,Tryz.ntmps224
  go_wp2
  go_ret
  exact⟨aK (JZ h0 h1 hn),rfl⟩
 ·go_enter Tryz.func224,Tryz.ntmps224
  go_wp2
  go_ret
  exact⟨aK (JY h0 (by omega)),rfl⟩
set_option maxHeartbeats 400000 in
theorem MC(x a n:Int)(w:World)(h0:0≤x)(h1:x≤4294967295)(hp:dL a n=true):
  Calls Tryz.prog 188 #[.int .u32 x,.int .i64 a,.int .i64 n] w fun e w'=>e=.returned (.int .u32 (iy x a n))∧∃k,w'=w.drewN k:=by
 obtain⟨g0,g1,g2,g3⟩:=jB hp
 have HG:Hid (bits .and .u32 (x/2^a.toNat) (pw n-1)=iy x a n):=Mx h0 h1 hp
 have HP:Hid (dL a n=true):=hp
 clear hp
 go_enter Tryz.func188,Tryz.ntmps188
 go_wp2_with (go_at_call 217;refine(oH _ _ _ HP.out).mono ?_;rintro e w' ⟨rfl,rfl⟩)
 go_quiet ((go_at_call 218;exact CG (uH _ _ g1 g2)))
 go_wp2
 go_ret
 exact⟨dz HG.out,_,rfl⟩
set_option maxHeartbeats 400000 in
theorem Ou(x a n:Int)(w:World)(hp:dL a n=false):
  Calls Tryz.prog 188 #[.int .u32 x,.int .i64 a,.int .i64 n] w fun e w'=>e=.returned (.int .u32 0)∧w=w':=by
 have HP:Hid (dL a n=false):=hp
 clear hp
 go_enter Tryz.func188,Tryz.ntmps188
 go_wp2_with (go_at_call 217;refine(wH _ _ _ HP.out).mono ?_;rintro e w' ⟨rfl,rfl⟩)
 go_ret
 exact⟨rfl,rfl⟩
theorem Nn{a b c:Int}(h:a=b):Ending.returned (.tuple #[.int .u32 a,.int .i64 c])=.returned (.tuple #[.int .u32 b,.int .i64 c]):=by rw[h]
set_option maxHeartbeats 400000 in
theorem Pi(x a n v:Int)(w:World)(hp:dL a n=false):
  Calls Tryz.prog 200 #[.int .u32 x,.int .i64 a,.int .i64 n,.int .u32 v] w fun e w'=>e=.returned (.tuple #[.int .u32 0,.int .i64 2])∧w=w':=by
 have HP:Hid (dL a n=false):=hp
 clear hp
 go_enter Tryz.func200,Tryz.ntmps200
 go_wp2_with (go_at_call 217;refine(wH _ _ _ HP.out).mono ?_;rintro e w' ⟨rfl,rfl⟩)
 go_ret2
 exact⟨rfl,rfl⟩
set_option maxHeartbeats 400000 in
theorem Nh(x a n v:Int)(w:World)(hp:dL a n=true)(hv0:0≤v)(hv1:v≤4294967295)(hf:tq v n=false):
  Calls Tryz.prog 200 #[.int .u32 x,.int .i64 a,.int .i64 n,.int .u32 v] w fun e w'=>e=.returned (.tuple #[.int .u32 0,.int .i64 15])∧w=w':=by
 have HP:Hid (dL a n=true):=hp
 clear hp
 go_enter Tryz.func200,Tryz.ntmps200
 go_wp2_with (first|(go_at_call 217;refine(oH _ _ _ HP.out).mono ?_;rintro e w' ⟨rfl,rfl⟩)|(go_at_call 224;refine(BI _ _ _ hv0 hv1).mono ?_;rintro e w' ⟨rfl,rfl⟩))
 go_ret2
 exact⟨rfl,rfl⟩
set_option maxHeartbeats 400000 in
theorem Ni(x a n v:Int)(w:World)(h0:0≤x)(h1:x≤4294967295)(hp:dL a n=true)(hv0:0≤v)(hv1:v≤4294967295)(hf:tq v n=true):
  Calls Tryz.prog 200 #[.int .u32 x,.int .i64 a,.int .i64 n,.int .u32 v] w fun e w'=>e=.returned (.tuple #[.int .u32 (CB x a n v),.int .i64 0])∧∃k,w'=w.drewN k:=by
 obtain⟨g0,g1,g2,g3⟩:=jB hp
 have HG:Hid (bits .or .u32 (bits .andNot .u32 x (IntKind.u32.wrap ((pw n-1)*2^a.toNat))) (IntKind.u32.wrap (v*2^a.toNat))=CB x a n v):=Pj h0 h1 hv0 hp hf
 have HP:Hid (dL a n=true):=hp
 clear hp
 go_enter Tryz.func200,Tryz.ntmps200
 go_wp2_with (first|(go_at_call 217;refine(oH _ _ _ HP.out).mono ?_;rintro e w' ⟨rfl,rfl⟩)|(go_at_call 224;refine(BI _ _ _ hv0 hv1).mono ?_;rintro e w' ⟨rfl,rfl⟩))
 go_quiet ((go_at_call 218;exact CG (uH _ _ g1 g2)))
 go_wp2
 go_ret2
 exact⟨Nn HG.out,_,rfl⟩
def part(x:Int)(zs:List Int)(k:Nat):List Value:=(nI x zs k++List.replicate (zs.length-k) 0).map (Value.int .u32)
def Jq(x:Int)(zs:List Int)(w:World)(e:Ending)(w':World):Prop:=
 ∃a cap,e=.returned (.tuple #[.slice a zs.length cap,.int .i64 0])∧Row w' .u32 a (nI x zs zs.length)∧Below w.heap.size w w'
theorem Jq.mk{x:Int}{zs:List Int}{w w':World}{v:Value}{B:Nat}{t:TypeId}
  (h:w'.ownsRow B t 1 v zs.length ((nI x zs zs.length).map (Value.int .u32))) (hb:Below w.heap.size w w'):Jq x zs w (.returned (.tuple #[v,.int .i64 0])) w':=by
 have h2:w'.ownsRow B t 1 v (nI x zs zs.length).length ((nI x zs zs.length).map (Value.int .u32)):=by rw[oV];exact h
 obtain⟨a,cap,hv,hr⟩:=Row.pQ h2
 rw[oV] at hv
 exact⟨a,cap,by rw[hv],hr,hb⟩
def rY(x a n v:Int):Int:=if dL a n=true then(if tq v n=true then CB x a n v else 0) else 0
def KV(a n v:Int):Int:=if dL a n=true then(if tq v n=true then 0 else 15) else 2
theorem CF{x a n v:Int}(h1:dL a n=true)(h2:tq v n=true):rY x a n v=CB x a n v:=by unfold rY;rw[if_pos h1,if_pos h2]
theorem KW{a n v:Int}(h1:dL a n=true)(h2:tq v n=true):KV a n v=0:=by unfold KV;rw[if_pos h1,if_pos h2]
theorem wY{a b c d:Int}(h:a=b)(h2:c=d):Ending.returned (.tuple #[.int .u32 a,.int .i64 c])=.returned (.tuple #[.int .u32 b,.int .i64 d]):=by rw[h,h2]
theorem MB(x a n:Int)(w:World)(h0:0≤x)(h1:x≤4294967295):
  Calls Tryz.prog 188 #[.int .u32 x,.int .i64 a,.int .i64 n] w fun e w'=>e=.returned (.int .u32 (iy x a n))∧jr w w':=by
 cases hp:dL a n
 ·refine(Ou x a n w hp).mono fun e w' ⟨he,hw⟩=>⟨?_,hw▸jr.refl w⟩
  rw[he];exact dz (by unfold iy;rw[hp];rfl)
 ·exact MC x a n w h0 h1 hp
theorem Ng(x a n v:Int)(w:World)(h0:0≤x)(h1:x≤4294967295)(hv0:0≤v)(hv1:v≤4294967295):
  Calls Tryz.prog 200 #[.int .u32 x,.int .i64 a,.int .i64 n,.int .u32 v] w fun e w'=>e=.returned (.tuple #[.int .u32 (rY x a n v),.int .i64 (KV a n v)])∧jr w w':=by
 cases hp:dL a n
 ·refine(Pi x a n v w hp).mono fun e w' ⟨he,hw⟩=>⟨?_,hw▸jr.refl w⟩
  rw[he];exact wY (by unfold rY;rw[hp];rfl) (by unfold KV;rw[hp];rfl)
 ·cases hf:tq v n
  ·refine(Nh x a n v w hp hv0 hv1 hf).mono fun e w' ⟨he,hw⟩=>⟨?_,hw▸jr.refl w⟩
   rw[he];exact wY (by unfold rY;rw[hp,hf];rfl) (by unfold KV;rw[hp,hf];rfl)
  ·refine(Ni x a n v w h0 h1 hp hv0 hv1 hf).mono fun e w' ⟨he,hw⟩=>⟨?_,hw⟩
   rw[he];exact wY (CF hp hf).symm (KW hp hf).symm
open Classical in
open Classical in
open Classical in
open Classical in
def jy(n b:Int):Bool:=decide (0≤n∧n<b)
theorem FU{n b:Int}(h:jy n b=true):0≤n∧n<b:=of_decide_eq_true h
theorem OD{n b:Int}(h:0≤n∧n<b):jy n b=true:=decide_eq_true h
theorem FT{n b:Int}(h:¬(0≤n∧n<b)):jy n b=false:=decide_eq_false h
def uq(c n s d g:Int):Bool:=jy c 2&&jy n 2&&jy s 2&&jy d 2&&jy g 2
def qo(c n s d g:Int):Bool:=decide (c=0∧n=0∧s=0∧d=0∧g=0)
def dP(k c n s d g o:Int):Bool:=jy k 4&&jy o 1048576&&(k==3||o==0)&&uq c n s d g&&(!(k==0||k==3)||qo c n s d g)
def bN(k c n s d g o:Int):Prop:=
 (0≤k∧k<4)∧(0≤o∧o<1048576)∧(k=3∨o=0)∧(0≤c∧c<2)∧(0≤n∧n<2)∧(0≤s∧s<2)∧(0≤d∧d<2)∧(0≤g∧g<2)∧((k=0∨k=3)→c=0∧n=0∧s=0∧d=0∧g=0)
theorem jC{k c n s d g o:Int}:dP k c n s d g o=true↔bN k c n s d g o:=by
 unfold dP bN uq qo jy
 simp only[Bool.and_eq_true,Bool.or_eq_true,Bool.not_eq_true',Bool.or_eq_false_iff,decide_eq_true_eq,beq_iff_eq,beq_eq_false_iff_ne,ne_eq]
 omega
theorem xc{k c n s d g o:Int}(h:dP k c n s d g o=true):bN k c n s d g o:=jC.1 h
theorem kD{k c n s d g o:Int}(h:bN k c n s d g o):dP k c n s d g o=true:=jC.2 h
theorem IK{k c n s d g o:Int}(h:¬bN k c n s d g o):dP k c n s d g o=false:=by
 cases h2:dP k c n s d g o with
 |false=>rfl
 |true=>exact absurd (xc h2) h
theorem vW{a b:Bool}(h:a=true↔b=true):a=b:=by cases a<;>cases b<;>simp_all
theorem ze{c n s d g:Int}:qo c n s d g=true↔c=0∧n=0∧s=0∧d=0∧g=0:=by unfold qo;simp
theorem GN{c n s d g:Int}:uq c n s d g=true↔(0≤c∧c<2)∧(0≤n∧n<2)∧(0≤s∧s<2)∧(0≤d∧d<2)∧(0≤g∧g<2):=by
 unfold uq jy;simp[and_assoc]
theorem Qs{k c n s d g o:Int}(h:jy k 4=false):dP k c n s d g o=false:=by unfold dP;rw[h];rfl
theorem Qt{k c n s d g o:Int}(h:jy o 1048576=false):dP k c n s d g o=false:=by unfold dP;rw[h];simp
theorem Pv{k c n s d g o:Int}(h:¬k=3)(h2:¬o=0):dP k c n s d g o=false:=by
 refine IK fun hr=> ?_
 obtain⟨_,_,h3,_⟩:=hr
 omega
theorem Qr{c n s d g o:Int}(h:jy o 1048576=true):dP 3 c n s d g o=qo c n s d g:=by
 have:=FU h
 refine vW ?_
 rw[jC,ze];unfold bN
 omega
theorem Qq{c n s d g:Int}:dP 0 c n s d g 0=qo c n s d g:=by
 refine vW ?_
 rw[jC,ze];unfold bN
 omega
theorem Qu{k c n s d g:Int}(h:jy k 4=true)(h0:¬k=0)(h3:¬k=3):dP k c n s d g 0=uq c n s d g:=by
 have:=FU h
 refine vW ?_
 rw[jC,GN];unfold bN
 omega
def packI(k c n s d g o:Int):Int:=k+4*c+8*n+16*s+32*d+64*g+256*o
theorem KX{x a n v:Int}(h0:0≤x)(hx:x<pw a)(hp:dL a n=true):CB x a n v=x+v*pw a:=by
 unfold CB iy
 rw[if_pos hp,Int.ediv_eq_zero_of_lt h0 hx]
 simp
theorem kV{x a n v:Int}(h0:0≤x)(hx:x<pw a)(hp:dL a n=true)(hf:v<pw n):rY x a n v=x+v*pw a:=by
 rw[CF hp (decide_eq_true hf),KX h0 hx hp]
theorem xZ:pw 1=2:=by decide
theorem KY:pw 2=4:=by decide
theorem Pm:pw 3=8:=by decide
theorem Pn:pw 4=16:=by decide
theorem Po:pw 5=32:=by decide
theorem Pp:pw 6=64:=by decide
theorem Pq:pw 8=256:=by decide
theorem NZ:pw 24=16777216:=by decide
def OV(k:Int):Int:=rY 0 0 2 k
def OW(k c:Int):Int:=rY (OV k) 2 1 c
def OX(k c n:Int):Int:=rY (OW k c) 3 1 n
def OY(k c n s:Int):Int:=rY (OX k c n) 4 1 s
def OZ(k c n s d:Int):Int:=rY (OY k c n s) 5 1 d
def Pb(k c n s d g:Int):Int:=rY (OZ k c n s d) 6 1 g
def QG(k c n s d g o:Int):Int:=rY (Pb k c n s d g) 8 24 o
theorem Pf{k c n s d g o:Int}(h:bN k c n s d g o):
  QG k c n s d g o=packI k c n s d g o∧(0≤OV k∧OV k≤4294967295)∧(0≤OW k c∧OW k c≤4294967295)∧(0≤OX k c n∧OX k c n≤4294967295)∧(0≤OY k c n s∧OY k c n s≤4294967295)∧(0≤OZ k c n s d∧OZ k c n s d≤4294967295)∧(0≤Pb k c n s d g∧Pb k c n s d g≤4294967295):=by
 obtain⟨h1,h2,h3,h4,h5,h6,h7,h8,h9⟩:=h
 have e0:OV k=k:=by
  unfold OV;rw[kV (by omega) (by decide) (by decide) (by rw[KY];omega),Qn];omega
 have e1:OW k c=k+4*c:=by
  unfold OW;rw[e0,kV (by omega) (by rw[KY];omega) (by decide) (by rw[xZ];omega),KY];omega
 have e2:OX k c n=k+4*c+8*n:=by
  unfold OX;rw[e1,kV (by omega) (by rw[Pm];omega) (by decide) (by rw[xZ];omega),Pm];omega
 have e3:OY k c n s=k+4*c+8*n+16*s:=by
  unfold OY;rw[e2,kV (by omega) (by rw[Pn];omega) (by decide) (by rw[xZ];omega),Pn];omega
 have e4:OZ k c n s d=k+4*c+8*n+16*s+32*d:=by
  unfold OZ;rw[e3,kV (by omega) (by rw[Po];omega) (by decide) (by rw[xZ];omega),Po];omega
 have e5:Pb k c n s d g=k+4*c+8*n+16*s+32*d+64*g:=by
  unfold Pb;rw[e4,kV (by omega) (by rw[Pp];omega) (by decide) (by rw[xZ];omega),Pp];omega
 have e6:QG k c n s d g o=k+4*c+8*n+16*s+32*d+64*g+256*o:=by
  unfold QG;rw[e5,kV (by omega) (by rw[Pq];omega) (by decide) (by rw[NZ];omega),Pq];omega
 unfold packI
 omega
def uK(x:Int):Int:=x%4
def uC(x:Int):Int:=x/4%2
def uN(x:Int):Int:=x/8%2
def uS(x:Int):Int:=x/16%2
def uD(x:Int):Int:=x/32%2
def uG(x:Int):Int:=x/64%2
def uO(x:Int):Int:=x/256
theorem Oy(x:Int):iy x 0 2=uK x:=by
 unfold iy uK;rw[if_pos (by decide),Qn,KY,Int.ediv_one]
theorem Ov(x:Int):iy x 2 1=uC x:=by unfold iy uC;rw[if_pos (by decide),xZ,KY]
theorem Oz(x:Int):iy x 3 1=uN x:=by unfold iy uN;rw[if_pos (by decide),xZ,Pm]
theorem OB(x:Int):iy x 4 1=uS x:=by unfold iy uS;rw[if_pos (by decide),xZ,Pn]
theorem Ow(x:Int):iy x 5 1=uD x:=by unfold iy uD;rw[if_pos (by decide),xZ,Po]
theorem Ox(x:Int):iy x 6 1=uG x:=by unfold iy uG;rw[if_pos (by decide),xZ,Pp]
theorem OA{x:Int}(h0:0≤x)(h1:x≤4294967295):iy x 8 24=uO x:=by
 unfold iy uO;rw[if_pos (by decide),Pq,NZ];omega
theorem unpack_pack{k c n s d g o:Int}(h:bN k c n s d g o):
  uK (packI k c n s d g o)=k∧uC (packI k c n s d g o)=c∧uN (packI k c n s d g o)=n∧uS (packI k c n s d g o)=s∧uD (packI k c n s d g o)=d∧uG (packI k c n s d g o)=g∧uO (packI k c n s d g o)=o:=by
 obtain⟨h1,h2,h3,h4,h5,h6,h7,h8,h9⟩:=h
 unfold packI uK uC uN uS uD uG uO
 omega
theorem Cu(x:Int):packI (uK x) (uC x) (uN x) (uS x) (uD x) (uG x) (uO x)=x-128*(x/128%2):=by
 unfold packI uK uC uN uS uD uG uO
 omega
def AV(W:Int):Bool:=decide (16≤W∧W≤256)
theorem sJ{W:Int}(h:AV W=true):16≤W∧W≤256:=of_decide_eq_true h
theorem vQ{W:Int}(h0:16≤W)(h1:W≤256):AV W=true:=decide_eq_true ⟨h0,h1⟩
theorem DL{W:Int}(h:¬(16≤W∧W≤256)):AV W=false:=decide_eq_false h
def dJ(W n:Int):Int:=if n≤W-8 then 0 else DV n (W-1)
def tY(l:Int):Int:=if l= -1 then 8 else 1
def sO(W l:Int):Int:=lw [l,W-1]
def fq(W n:Int):Int:=if AV W=true then(if n<0∨aZ W<n then 3 else 0) else 1
def dR(W p d:Int):Int:=if AV W=true then(if p<0∨d<0∨aZ W<p+d then 3 else 0) else 1
def bX(W p d:Int):Int:=if dR W p d=0 then 1+dJ W (p+d) else 0
def fo(W n i:Int):Int:=if fq W n=0 then(if i<0∨n≤i then 7 else 0) else fq W n
def kT(W n i:Int):Int:=if fo W n i=0 then(if n≤W-8 then -1 else i/(W-1)) else 0
def jQ(W n i:Int):Int:=if fo W n i=0 then(if n≤W-8 then 8+i else 1+i%(W-1)) else 0
theorem zA{W n:Int}(h:fq W n=0):16≤W∧W≤256∧0≤n∧n≤aZ W:=by
 unfold fq at h
 split at h
 ·rename_i hw
  have:=sJ hw
  split at h
  ·cases h
  ·omega
 ·cases h
theorem Ji{W n:Int}(h0:16≤W)(h1:W≤256)(h2:0≤n)(h3:n≤aZ W):fq W n=0:=by
 unfold fq;rw[if_pos (vQ h0 h1),if_neg (by omega)]
theorem sj{W p d:Int}(h:dR W p d=0):16≤W∧W≤256∧0≤p∧0≤d∧p+d≤aZ W:=by
 unfold dR at h
 split at h
 ·rename_i hw
  have:=sJ hw
  split at h
  ·cases h
  ·omega
 ·cases h
theorem zn{W n i:Int}(h:fo W n i=0):fq W n=0∧0≤i∧i<n:=by
 unfold fo at h
 split at h
 ·split at h
  ·cases h
  ·exact⟨by assumption,by omega,by omega⟩
 ·exact absurd h (by assumption)
theorem zm{W n i:Int}(h:fq W n=0)(h0:0≤i)(h1:i<n):fo W n i=0:=by
 unfold fo;rw[if_pos h,if_neg (by omega)]
theorem ng{W n:Int}(h0:16≤W)(h1:W≤256)(h2:W-8<n)(h3:n≤aZ W):
  1≤dJ W n∧dJ W n≤W-8∧n≤dJ W n*(W-1)∧dJ W n*(W-1)<n+W-1:=by
 have e:dJ W n=DV n (W-1):=by unfold dJ;rw[if_neg (by omega)]
 have u:=Fu (a:=n) (b:=W-1) (by omega) (by omega)
 rw[e]
 rw[Int.mul_comm (W-1)] at u
 refine⟨?_,?_,u.2.2.1,by omega⟩
 ·by_cases h:1≤DV n (W-1)
  ·exact h
  ·have:DV n (W-1)=0:=by omega
   rw[this,Int.zero_mul] at u
   omega
 ·by_cases h:DV n (W-1)≤W-8
  ·exact h
  ·have h4:(W-8+1)*(W-1)≤DV n (W-1)*(W-1):=Int.mul_le_mul_of_nonneg_right (by omega) (by omega)
   rw[Int.add_mul] at h4
   have:(W-8)*(W-1)=aZ W:=rfl
   omega
theorem jZ{W n:Int}(h:n≤W-8):dJ W n=0:=by unfold dJ;rw[if_pos h]
theorem mg{W n:Int}(h0:16≤W)(h1:W≤256)(h3:n≤aZ W):0≤dJ W n∧dJ W n≤W-8:=by
 by_cases h:n≤W-8
 ·rw[jZ h];omega
 ·have:=ng h0 h1 (by omega) h3;omega
theorem MJ{m a b:Int}(hm:1≤m)(h:a<b):a*m+m≤b*m:=by
 have:(a+1)*m≤b*m:=Int.mul_le_mul_of_nonneg_right (by omega) (by omega)
 rw[Int.add_mul] at this
 omega
theorem GL{W l:Int}(h0:16≤W)(h1:W≤256)(h:l≤0):sO W l=0:=by
 unfold sO
 rw[Cm,Ol h,iK (by omega) (by omega),mH (by omega) (by omega) (by omega) (by omega),Int.zero_mul]
 rfl
theorem JA{W l:Int}(h0:16≤W)(h1:W≤256)(h:0≤l)(h2:l≤256):sO W l=l*(W-1):=by
 unfold sO
 have:=zb h (show 0≤W-1 by omega) h2 (show W-1≤255 by omega)
 exact lG (by omega) (by omega) (by omega) (by omega) (by omega)
theorem Na{m i:Int}(hm:1≤m)(hi:0≤i):i=(i/m)*m+i%m∧0≤i%m∧i%m<m∧0≤i/m:=
 ⟨by have:=Int.emod_add_mul_ediv i m;rw[Int.mul_comm] at this;omega,Int.emod_nonneg _ (by omega),Int.emod_lt_of_pos _ (by omega),Int.ediv_nonneg hi (by omega)⟩
theorem uR{W n i:Int}(h:fo W n i=0)(hn:n≤W-8):kT W n i= -1∧jQ W n i=8+i:=by
 unfold kT jQ;rw[if_pos h,if_pos hn,if_pos h,if_pos hn];exact⟨rfl,rfl⟩
theorem zq{W n i:Int}(h:fo W n i=0)(hn:W-8<n):kT W n i=i/(W-1)∧jQ W n i=1+i%(W-1):=by
 unfold kT jQ;rw[if_pos h,if_neg (by omega),if_pos h,if_neg (by omega)];exact⟨rfl,rfl⟩
theorem uT{W n i:Int}(h:fo W n i≠0):kT W n i=0∧jQ W n i=0:=by
 unfold kT jQ;rw[if_neg h,if_neg h];exact⟨rfl,rfl⟩
end Go.Proofs.YtbfdimibehkbjaaGreat.Pk
