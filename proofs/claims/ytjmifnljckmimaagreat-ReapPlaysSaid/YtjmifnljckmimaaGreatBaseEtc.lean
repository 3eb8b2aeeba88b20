/-
  Texts laid together: Base, NumMath, PackFn, TagMath, ShapeMath.
-/
import Derived.WalkKit
import Derived.WalkSpells
import Derived.WalkLawsBesides
import Derived.Deep.QuietTactic
import Derived.BigQuiet
import Derived.Lib.Hide
import Derived.Laws.NewBlocks
import Derived.OneCell
import Derived.Laws.MakeOwn
import Derived.Laws.OwnMore
import Derived.Test.YtjmifnljckmimaaGreatProg
import Derived.IntWalk
namespace Go.Proofs.YtjmifnljckmimaaGreat.Pk
open Lib (hid)
open Go.RowKit
set_option linter.unusedVariables false
set_option linter.unusedSimpArgs false
def nth(zs:List Int)(i:Nat):Int:=zs.getD i 0
def Row(w:World)(k:IntKind)(a:Option Addr)(zs:List Int):Prop:=
 ∀i,i<zs.length→∃b off,a=some ⟨b,off,none⟩∧b<w.heap.size∧w.cell? ⟨b,off+i,none⟩=some (.int k (nth zs i))
theorem Row.nil(w:World)(k:IntKind)(a:Option Addr):Row w k a []:=fun _ h=>absurd h (Nat.not_lt_zero _)
theorem Row.below{w w':World}{k:IntKind}{a:Option Addr}{zs:List Int}{B:Nat}(h:Row w k a zs)(hb:Below B w w')(hB:w.heap.size≤B):Row w' k a zs:=by
 intro i hi
 obtain⟨b,off,ha,hlt,hc⟩:=h i hi
 exact⟨b,off,ha,Nat.lt_of_lt_of_le hlt hb.size,by rw[hb.cell (p:=⟨b,off+i,none⟩) (Nat.lt_of_lt_of_le hlt hB)];exact hc⟩
theorem Row.drewN{w:World}{k:IntKind}{a:Option Addr}{zs:List Int}(h:Row w k a zs)(n:Nat):Row (w.drewN n) k a zs:=by
 intro i hi
 obtain⟨b,off,ha,hlt,hc⟩:=h i hi
 exact⟨b,off,ha,hlt,hc⟩
theorem Row.alloc{w:World}{k:IntKind}{a:Option Addr}{zs:List Int}(h:Row w k a zs)(o:Obj):Row (w.alloc o) k a zs:=
 h.below ((Below.refl w.heap.size w).alloc (Nat.le_refl _) o) (Nat.le_refl _)
theorem Row.later{w w':World}{k:IntKind}{a:Option Addr}{zs:List Int}(h:Row w k a zs)(hb:Below w.heap.size w w'):Row w' k a zs:=h.below hb (Nat.le_refl _)
theorem below_step{w w1 w2:World}(h:Below w.heap.size w w1)(h2:Below w1.heap.size w1 w2):Below w.heap.size w w2:=h.trans (h2.mono h.size)
theorem below_new(w:World)(o:Obj):Below w.heap.size w (w.alloc o):=(Below.refl _ _).alloc (Nat.le_refl _) o
theorem kZ{w w1:World}(h:Below w.heap.size w w1){p:Addr}(hp:w.heap.size≤p.block)(u:Value):Below w.heap.size w (w1.setCell p u):=h.setCell hp u
theorem xg{w:World}{a:Addr}{v:Value}(h:w.cell? a=some v):a.block<w.heap.size:=by
 by_cases hlt:a.block<w.heap.size
 ·exact hlt
 ·unfold World.cell? at h
  rw[Array.getElem?_eq_none (by omega)] at h
  cases h
theorem Ad{w:World}{a:Addr}{v:Value}(h:w.cell? a=some v):a.spot=none:=by
 unfold World.cell? at h
 split at h
 ·split at h
  ·cases h
  ·rename_i hs
   cases hsp:a.spot with
   |none=>rfl
   |some k=>rw[hsp] at hs;exact absurd rfl hs
 ·cases h
theorem Pw{W:World}{k:IntKind}{x:Addr}{len cap:Nat}{zs:List Int}(hl:len≤cap)(hm:cap≤maxLen)(hz:zs.length=cap)
  (hcell:∀i,i<zs.length→W.cell? (x.add i)=some (.int k (zs.getD i 0))) (hwz:∀n∈zs,(Lit.int k n).wf=true):
  ∃es:List Int,len=es.length∧Row W k (some x) es∧(∀n∈es,(Lit.int k n).wf=true)∧len≤maxLen:=by
 refine⟨zs.take len,by simp;omega,?_,fun n hn=>hwz n (List.mem_of_mem_take hn),Nat.le_trans hl hm⟩
 intro i hi
 have hi1:i<len:=by simp at hi;omega
 obtain⟨b,off,spot⟩:=x
 have hs:=Ad (hcell 0 (by omega))
 simp[Addr.add] at hs
 subst hs
 have hadd:(⟨b,off,none⟩:Addr).add i=⟨b,off+i,none⟩:=by
  unfold Addr.add
  by_cases h0:i=0
  ·subst h0;rfl
  ·simp[h0]
 have hc:=hcell i (by omega)
 rw[hadd] at hc
 refine⟨b,off,rfl,xg hc,?_⟩
 rw[hc]
 unfold nth
 simp[List.getD,hi1]
def dK(w w':World):Prop:=∃m,w'=w.drewN m
theorem dK.refl(w:World):dK w w:=⟨0,rfl⟩
theorem dK.step{w w':World}(h:dK w w')(n:Nat):dK w (w'.drewN n):=by
 obtain⟨m,rfl⟩:=h;exact⟨m+n,World.drewN_drewN _ _ _⟩
theorem dK.size{w w':World}(h:dK w w'):w'.heap.size=w.heap.size:=by obtain⟨m,rfl⟩:=h;rfl
theorem dK.below{w w':World}(h:dK w w')(B:Nat):Below B w w':=by obtain⟨m,rfl⟩:=h;exact⟨rfl,rfl,rfl,Nat.le_refl _,fun _ _=>rfl⟩
theorem dK.new{w w':World}(h:dK w w'):Below w.heap.size w w':=h.below _
theorem Row.dF{w w':World}{k:IntKind}{a:Option Addr}{zs:List Int}(h:Row w k a zs)(d:dK w w'):Row w' k a zs:=by
 obtain⟨m,rfl⟩:=d;exact h.drewN m
theorem aJ{a b:Bool}(h:a=b):Ending.returned (.bool a)=.returned (.bool b):=by rw[h]
theorem bO{k:IntKind}{a b:Int}(h:a=b):Ending.returned (.int k a)=.returned (.int k b):=by rw[h]
theorem FN{P:Program}{f:FuncId}{args:Array Value}{w:World}{n:Nat}{v:Value}
  (h:Calls P f args (w.drewN n) fun e w'=>e=.returned v∧w.drewN n=w'):Calls P f args (w.drewN n) fun e w''=>e=.returned v∧∃m,w''=w.drewN m:=
 h.mono fun _ _ ⟨he,hm⟩=>⟨he,n,hm.symm⟩
theorem Row.ow{w:World}{B:Nat}{e:TypeId}{k:IntKind}{v:Value}{zs:List Int}(h:w.ownsRow B e 1 v zs.length (zs.map (Value.int k))):
  ∃a cap,v=.slice a zs.length cap∧Row w k a zs:=by
 rcases h.2 with⟨h1,h2⟩|⟨g,cap,cur,h1,_,hg,_⟩
 ·refine⟨none,0,by rw[h1,h2],fun i hi=> ?_⟩
  omega
 ·refine⟨some ⟨g,0,none⟩,cap,h1,fun i hi=>⟨g,0,rfl,?_,?_⟩⟩
  ·by_cases hlt:g<w.heap.size
   ·exact hlt
   ·rw[Array.getElem?_eq_none (by omega)] at hg
    cases hg
  ·subst h1
   have hc:=h.cellAt i (by omega)
   rw[Nat.zero_add,hc,List.getElem?_map]
   show Option.map (Value.int k) zs[i]? =some (Value.int k (zs.getD i 0))
   simp[List.getD,hi]
theorem aN{w:World}{B:Nat}{e:TypeId}{size:Nat}{v:Value}{n:Nat}{xs:List Value}(h:w.ownsRow B e size v n xs):∀k,v.ownBlock=some k→B≤k:=by
 intro k hk
 rcases h.2 with⟨h1,_⟩|⟨g,cap,cur,h1,hb,_⟩
 ·subst h1;cases hk
 ·subst h1
  simp[Value.ownBlock] at hk
  omega
theorem Row.lit(w:World)(k:IntKind)(zs:List Int)(t:TypeId):Row (w.alloc (.cells (zs.map (Value.int k)).toArray t)) k (some ⟨w.heap.size,0,none⟩) zs:=by
 intro i hi
 refine⟨w.heap.size,0,rfl,by simp,?_⟩
 rw[Nat.zero_add,World.cell?_alloc_at _ _ _ _ rfl]
 show(zs.map (Value.int k)).toArray[i]? =some (Value.int k (zs.getD i 0))
 simp[List.getD,hi]
theorem Kg{B:Nat}{W w1:World}(hb:Below B W w1):(∀b o,b<B→w1.cell? ⟨b,o,none⟩=W.cell? ⟨b,o,none⟩)∧(∀b o,b<B→w1.frozen? ⟨b,o,none⟩=W.frozen? ⟨b,o,none⟩):=
 ⟨fun b o h=>hb.cell (p:=⟨b,o,none⟩) h,fun b o h=>hb.frozen (p:=⟨b,o,none⟩) h⟩
structure Touch (X:Nat→Prop) (w w':World):Prop where
 os:w'.os=w.os
 tape:w'.tape=w.tape
 output:w'.output=w.output
 size:w.heap.size≤w'.heap.size
 block:∀k,k<w.heap.size→¬X k→w'.heap[k]? =w.heap[k]?
theorem Touch.refl(X:Nat→Prop)(w:World):Touch X w w:=⟨rfl,rfl,rfl,Nat.le_refl _,fun _ _ _=>rfl⟩
theorem Touch.trans{X:Nat→Prop}{a b c:World}(h:Touch X a b)(k:Touch X b c):Touch X a c:=
 ⟨k.os.trans h.os,k.tape.trans h.tape,k.output.trans h.output,Nat.le_trans h.size k.size,fun i hi hx=>(k.block i (Nat.lt_of_lt_of_le hi h.size) hx).trans (h.block i hi hx)⟩
theorem Touch.mono{X Y:Nat→Prop}{w w':World}(h:Touch X w w')(hXY:∀k,k<w.heap.size→X k→Y k):Touch Y w w':=
 ⟨h.os,h.tape,h.output,h.size,fun k hk hy=>h.block k hk fun hx=>hy (hXY k hk hx)⟩
theorem Touch.of_below{X:Nat→Prop}{w w':World}(h:Below w.heap.size w w'):Touch X w w':=⟨h.os,h.tape,h.output,h.size,fun k hk _=>h.block k hk⟩
theorem Touch.below{X:Nat→Prop}{w w':World}{B:Nat}(h:Touch X w w')(hX:∀k,X k→B≤k)(hB:B≤w.heap.size):Below B w w':=
 ⟨h.os,h.tape,h.output,h.size,fun k hk=>h.block k (by omega) fun hx=>by have:=hX k hx;omega⟩
theorem Touch.alloc{X:Nat→Prop}{a w:World}(h:Touch X a w)(o:Obj):Touch X a (w.alloc o):=
 ⟨h.os,h.tape,h.output,by have:=h.size;simp;omega,fun k hk hx=>(Below.heap_alloc _ _ _ (Nat.lt_of_lt_of_le hk h.size)).trans (h.block k hk hx)⟩
theorem Touch.setCell{X:Nat→Prop}{a w:World}(h:Touch X a w){p:Addr}(hp:p.block<a.heap.size→X p.block)(u:Value):Touch X a (w.setCell p u):=
 ⟨h.os,h.tape,h.output,by have:=h.size;simpa[World.setCell] using this,fun k hk hx=>(Below.heap_setCell _ _ _ _ (fun e=>by subst e;exact hx (hp hk))).trans (h.block k hk hx)⟩
theorem Touch.drewN{X:Nat→Prop}{a w:World}(h:Touch X a w)(n:Nat):Touch X a (w.drewN n):=⟨h.os,h.tape,h.output,h.size,h.block⟩
theorem Touch.drew{X:Nat→Prop}{a w:World}(h:Touch X a w):Touch X a w.drew:=⟨h.os,h.tape,h.output,h.size,h.block⟩
theorem Touch.cell{X:Nat→Prop}{w w':World}(h:Touch X w w'){p:Addr}(hp:p.block<w.heap.size)(hx:¬X p.block):w'.cell? p=w.cell? p:=World.cell?_of_block (w:=w) (h.block p.block hp hx)
theorem Touch.qw{X:Nat→Prop}{w w':World}(h:Touch X w.drew w'):Touch X w w':=⟨h.os,h.tape,h.output,h.size,h.block⟩
def aT(w:World)(b:Nat)(cs:Array Value)(t:TypeId):Prop:=w.heap[b]? =some (.cells cs t (0,0))
theorem aT.lt{w:World}{b:Nat}{cs:Array Value}{t:TypeId}(h:aT w b cs t):b<w.heap.size:=lt_of_block h
theorem aT.cell{w:World}{b:Nat}{cs:Array Value}{t:TypeId}(h:aT w b cs t)(i:Nat){v:Value}(hv:cs[i]? =some v):w.cell? ⟨b,i,none⟩=some v:=by
 unfold aT at h
 simp[World.cell?,h,hv]
theorem aT.free{w:World}{b:Nat}{cs:Array Value}{t:TypeId}(h:aT w b cs t)(i:Nat):w.frozen? ⟨b,i,none⟩=false:=by
 unfold aT at h
 simp[World.frozen?,h]
theorem aT.new(w:World)(cs:Array Value)(t:TypeId):aT (w.alloc (.cells cs t)) w.heap.size cs t:=by
 show(w.heap.push _)[w.heap.size]? =_
 simp
theorem aT.alloc{w:World}{b:Nat}{cs:Array Value}{t:TypeId}(h:aT w b cs t)(o:Obj):aT (w.alloc o) b cs t:=(Below.heap_alloc _ _ _ h.lt).trans h
theorem aT.drewN{w:World}{b:Nat}{cs:Array Value}{t:TypeId}(h:aT w b cs t)(n:Nat):aT (w.drewN n) b cs t:=h
theorem aT.drew{w:World}{b:Nat}{cs:Array Value}{t:TypeId}(h:aT w b cs t):aT w.drew b cs t:=h
theorem aT.other{w:World}{b:Nat}{cs:Array Value}{t:TypeId}(h:aT w b cs t){p:Addr}(hp:p.block≠b)(v:Value):aT (w.setCell p v) b cs t:=(Below.heap_setCell _ _ _ _ (Ne.symm hp)).trans h
theorem aT.set{w:World}{b:Nat}{cs:Array Value}{t:TypeId}(h:aT w b cs t)(i:Nat)(v:Value):aT (w.setCell ⟨b,i,none⟩ v) b (cs.setIfInBounds i v) t:=by
 have hlt:=h.lt
 unfold aT at h
 have h':w.heap[b]=.cells cs t (0,0):=by simpa[Array.getElem?_eq_getElem hlt] using h
 show(w.heap.modify b _)[b]? =_
 rw[Array.getElem?_eq_getElem (by simpa using hlt),Array.getElem_modify_self,h']
 rfl
theorem aT.put{w:World}{b:Nat}{cs cs':Array Value}{t:TypeId}(h:aT w b cs t)(i:Nat)(v:Value)(e:cs.setIfInBounds i v=cs'):aT (w.setCell ⟨b,i,none⟩ v) b cs' t:=e▸h.set i v
theorem aT.touch{X:Nat→Prop}{w w':World}{b:Nat}{cs:Array Value}{t:TypeId}(h:aT w b cs t)(k:Touch X w w')(hx:¬X b):aT w' b cs t:=(k.block b h.lt hx).trans h
theorem aT.later{w w':World}{b:Nat}{cs:Array Value}{t:TypeId}(h:aT w b cs t)(k:Below w.heap.size w w'):aT w' b cs t:=(k.block b h.lt).trans h
def lC(X:Nat→Prop)(a:Option Addr)(zs:List Int):Prop:=0<zs.length→∀b off,a=some ⟨b,off,none⟩→¬X b
theorem Row.touch{X:Nat→Prop}{w w':World}{k:IntKind}{a:Option Addr}{zs:List Int}(h:Row w k a zs)(t:Touch X w w')(hx:lC X a zs):Row w' k a zs:=by
 intro i hi
 obtain⟨b,off,ha,hlt,hc⟩:=h i hi
 exact⟨b,off,ha,Nat.lt_of_lt_of_le hlt t.size,(t.cell (p:=⟨b,off+i,none⟩) hlt (hx (by omega) b off ha)).trans hc⟩
def pK(f:Nat→Value)(n:Nat):Array Value:=((List.range n).map f).toArray
theorem Ny{f:Nat→Value}{n i:Nat}(h:i<n):(pK f n)[i]? =some (f i):=by simp[pK,h]
theorem OG(z:Value)(hz:z.cells= #[z])(n:Nat):madeCells z.cells (n*1)=pK (fun _=>z) n:=by
 unfold madeCells pK
 have e:∀x:Nat,z.cells[x%z.cells.size]! =z:=by
  intro x
  rw[hz]
  simp[Nat.mod_one]
 simp only[e]
 apply Array.ext<;>simp
def dZ(w:World)(k:IntKind)(a:Option Addr)(zs:List Int):Prop:=
 zs.length=0∨∃b cs t,a=some ⟨b,0,none⟩∧aT w b cs t∧∀i,i<zs.length→cs[i]? =some (.int k (nth zs i))
theorem dZ.row{w:World}{k:IntKind}{a:Option Addr}{zs:List Int}(h:dZ w k a zs):Row w k a zs:=by
 intro i hi
 rcases h with h|⟨b,cs,t,rfl,hb,hc⟩
 ·omega
 ·exact⟨b,0,rfl,hb.lt,by rw[Nat.zero_add];exact hb.cell i (hc i hi)⟩
theorem dZ.later{w w':World}{k:IntKind}{a:Option Addr}{zs:List Int}(h:dZ w k a zs)(hb:Below w.heap.size w w'):dZ w' k a zs:=by
 rcases h with h|⟨b,cs,t,rfl,hk,hc⟩
 ·exact .inl h
 ·exact .inr ⟨b,cs,t,rfl,hk.later hb,hc⟩
theorem dZ.touch{X:Nat→Prop}{w w':World}{k:IntKind}{a:Option Addr}{zs:List Int}(h:dZ w k a zs)(t:Touch X w w')(hx:lC X a zs):dZ w' k a zs:=by
 rcases h with h|⟨b,cs,t',rfl,hk,hc⟩
 ·exact .inl h
 ·by_cases h0:zs.length=0
  ·exact .inl h0
  ·exact .inr ⟨b,cs,t',rfl,hk.touch t (hx (by omega) b 0 rfl),hc⟩
theorem dZ.set{w:World}{k:IntKind}{zs:List Int}{b i:Nat}(h:dZ w k (some ⟨b,0,none⟩) zs)(hi:i<zs.length)(v:Int):dZ (w.setCell ⟨b,i,none⟩ (.int k v)) k (some ⟨b,0,none⟩) (zs.set i v):=by
 rcases h with h|⟨b',cs,t,e,hk,hc⟩
 ·omega
 ·cases e
  refine .inr ⟨b,_,t,rfl,hk.set i (.int k v),fun j hj=> ?_⟩
  have hj':j<zs.length:=by simpa using hj
  have hcj:=hc j hj'
  have hjs:j<cs.size:=(Array.getElem?_eq_some_iff.1 hcj).1
  by_cases e:j=i
  ·subst e
   rw[Array.getElem?_setIfInBounds_self_of_lt hjs]
   unfold nth;simp[List.getD,hi]
  ·rw[Array.getElem?_setIfInBounds_ne (fun h=>e h.symm),hcj]
   unfold nth
   rw[List.getD_eq_getElem?_getD,List.getD_eq_getElem?_getD,List.getElem?_set_ne (fun h=>e h.symm)]
theorem dZ.at{w:World}{k:IntKind}{a:Option Addr}{zs:List Int}(h:dZ w k a zs){i:Nat}(hi:i<zs.length):∃b,a=some ⟨b,0,none⟩∧b<w.heap.size∧w.cell? ⟨b,i,none⟩=some (.int k (nth zs i))∧w.frozen? ⟨b,i,none⟩=false:=by
 rcases h with h|⟨b,cs,t,rfl,hk,hc⟩
 ·omega
 ·exact⟨b,rfl,hk.lt,hk.cell i (hc i hi),hk.free i⟩
theorem dZ.ow{w:World}{B:Nat}{e:TypeId}{k:IntKind}{v:Value}{zs:List Int}(h:w.ownsRow B e 1 v zs.length (zs.map (Value.int k))):∃a cap,v=.slice a zs.length cap∧dZ w k a zs:=by
 rcases h.2 with⟨h1,h2⟩|⟨g,cap,cur,h1,_,hg,_,_,_,ht⟩
 ·exact⟨none,0,by rw[h1,h2],.inl h2⟩
 ·refine⟨some ⟨g,0,none⟩,cap,h1,.inr ⟨g,cur,e,rfl,hg,fun i hi=> ?_⟩⟩
  have:(cur.toList.take (zs.length*1))[i]? =(zs.map (Value.int k))[i]? :=by rw[ht]
  rw[List.getElem?_take,if_pos (by omega),List.getElem?_map] at this
  rw[←Array.getElem?_toList,this]
  unfold nth
  simp[List.getD,hi]
set_option maxHeartbeats 600000 in
theorem PL(zs:List Int)(a b:Option Addr)(n ca cb:Nat)(w:World)(hn:zs.length=n)(ha:Row w .u32 a zs)(hb:Row w .u32 b zs)(hm:n≤maxLen):
  Calls Tryz.prog 25 #[.slice a n ca,.slice b n cb] w fun e w'=>e=.returned (.bool true)∧dK w w':=by
 unfold maxLen at hm
 have HN:=hid hn
 have HA:=hid ha
 have HB:=hid hb
 clear hn ha hb
 go_enter Tryz.func25,Tryz.ntmps25
 go_wp2
 go_loopw [5] (fun i wr=>∃k:Nat,k≤n∧i=.int .i64 k∧dK w wr) (fun i _=>n-(intOf i).toNat)
 case atStart=>exact⟨0,Nat.zero_le _,rfl,dK.refl _⟩
 case round=>
  obtain⟨k,hk,rfl,hd⟩:=hrel
  by_cases hlt:k<n
  ·obtain⟨b1,o1,rfl,hb1,hc1⟩:=(HA.out.dF hd) k (by rw[HN.out];exact hlt)
   obtain⟨b2,o2,rfl,hb2,hc2⟩:=(HB.out.dF hd) k (by rw[HN.out];exact hlt)
   have i0:(0:Int)≤(k:Int):=by omega
   have i1:(k:Int)<(n:Int):=by omega
   have HD:=hid hd
   clear hd
   go_wp2_with fail
   go_quiet (fail)
   have hd:dK w (wr.drewN nq):=HD.out.step _
   clear HD
   generalize wr.drewN nq=w2 at*
   go_wp2
   go_roundw
   case rel=>exact⟨k+1,by omega,by go_num,hd⟩
   case measure=>simp[intOf];omega
  ·go_wp2
   go_ret
   exact⟨rfl,hd⟩
def lJ(n lo hi:Int):Int:=if hi<n then hi else if n<lo then lo else n
def cnt(n:Int):Int:=lJ n 0 1125899906842624
def Nb(n:Int):Int:=if cnt n=0 then 1 else cnt n
def jI(a b:Int):Int:=if 0<b∧1125899906842624/b<a then 1125899906842624 else a*b
def NI(a b:Int):Int:=cnt a/Nb b
def UT(a b:Int):Int:=(cnt a+Nb b-1)/Nb b
theorem fO(n:Int):0≤cnt n∧cnt n≤1125899906842624:=by
 unfold cnt lJ;split
 ·omega
 ·split<;>omega
theorem iY{n:Int}(h0:0≤n)(h1:n≤1125899906842624):cnt n=n:=by
 unfold cnt lJ;rw[if_neg (by omega),if_neg (by omega)]
theorem Tj{n:Int}(h1:n≤0):cnt n=0:=by
 unfold cnt lJ;rw[if_neg (by omega)];split
 ·rfl
 ·omega
theorem qD(n:Int):cnt n=max 0 (min n 1125899906842624):=by
 unfold cnt lJ;split
 ·omega
 ·split<;>omega
theorem NC(n:Int):1≤Nb n∧Nb n≤1125899906842624:=by
 have:=fO n
 unfold Nb;split<;>omega
theorem QJ(n:Int):Nb n=max (cnt n) 1:=by
 have:=fO n
 unfold Nb;split<;>omega
theorem nJ{a b:Int}(ha:0≤a)(hb:0≤b)(ha2:a≤1125899906842624)(hb2:b≤1125899906842624):jI a b=min 1125899906842624 (a*b):=by
 unfold jI
 by_cases h:0<b∧1125899906842624/b<a
 ·rw[if_pos h]
  have h1:=Int.emod_add_mul_ediv 1125899906842624 b
  have h2:=Int.emod_lt_of_pos 1125899906842624 h.1
  have h3:b*(1125899906842624/b+1)≤b*a:=Int.mul_le_mul_of_nonneg_left (by omega) hb
  rw[Int.mul_add,Int.mul_comm b a] at h3
  omega
 ·rw[if_neg h]
  by_cases hb0:b=0
  ·subst hb0;rw[Int.mul_zero];decide
  ·have hp:0<b:=by omega
   have h4:a≤1125899906842624/b:=by
    by_cases h5:1125899906842624/b<a
    ·exact absurd ⟨hp,h5⟩ h
    ·omega
   have h5:b*a≤b*(1125899906842624/b):=Int.mul_le_mul_of_nonneg_left h4 hb
   have h6:=Int.mul_ediv_self_le (x:=1125899906842624) (k:=b) (by omega)
   rw[Int.mul_comm b a] at h5
   omega
theorem PX{a b:Int}(ha:0≤a)(hb:0≤b)(ha2:a≤1125899906842624)(hb2:b≤1125899906842624):0≤jI a b∧jI a b≤1125899906842624:=by
 rw[nJ ha hb ha2 hb2]
 have:=Int.mul_nonneg ha hb
 omega
def jl(l:List Int):Int:=l.foldl (fun s n=>cnt (s+cnt n)) 0
def mi(l:List Int):Int:=l.foldl (fun s n=>jI s (cnt n)) 1
def rA(l:List Int)(k:Nat):Int:=jl (l.take k)
def rJ(l:List Int)(k:Nat):Int:=mi (l.take k)
theorem um{l:List Int}{k:Nat}(h:k<l.length):l.take (k+1)=l.take k++[nth l k]:=by
 rw[List.take_succ_eq_append_getElem h];unfold nth;simp[List.getD,h]
theorem wZ{l:List Int}{k:Nat}(h:k<l.length):rA l (k+1)=cnt (rA l k+cnt (nth l k)):=by
 unfold rA jl;rw[um h,List.foldl_append];rfl
theorem zY(l:List Int):rA l l.length=jl l:=by unfold rA;rw[List.take_length]
theorem xR{l:List Int}{k:Nat}(h:k<l.length):rJ l (k+1)=jI (rJ l k) (cnt (nth l k)):=by
 unfold rJ mi;rw[um h,List.foldl_append];rfl
theorem AA(l:List Int):rJ l l.length=mi l:=by unfold rJ;rw[List.take_length]
def ul:List Int→Int
 |[]=>0
 |n::l=>cnt n+ul l
def nD:List Int→Int
 |[]=>1
 |n::l=>cnt n*nD l
theorem KP(l:List Int):0≤ul l:=by
 induction l with
 |nil=>exact Int.le_refl _
 |cons n l ih=>have:=fO n;show 0≤cnt n+ul l;omega
theorem FB(l:List Int):0≤nD l:=by
 induction l with
 |nil=>decide
 |cons n l ih=>exact Int.mul_nonneg (fO n).1 ih
theorem Gh(l m:List Int):ul (l++m)=ul l+ul m:=by
 induction l with
 |nil=>show ul m=0+ul m;omega
 |cons n l ih=>show cnt n+ul (l++m)=cnt n+ul l+ul m;rw[ih];omega
theorem CE(l m:List Int):nD (l++m)=nD l*nD m:=by
 induction l with
 |nil=>show nD m=1*nD m;omega
 |cons n l ih=>show cnt n*nD (l++m)=cnt n*nD l*nD m;rw[ih,Int.mul_assoc]
theorem PQ(n:Int):ul [n]=cnt n:=by show cnt n+0=cnt n;omega
theorem Mm(n:Int):nD [n]=cnt n:=by show cnt n*1=cnt n;omega
theorem Nt(l:List Int):jl l=min 1125899906842624 (ul l):=by
 have h:∀k,k≤l.length→rA l k=min 1125899906842624 (ul (l.take k)):=by
  intro k
  induction k with
  |zero=>intro _;rfl
  |succ k ih=>
   intro hk
   rw[wZ hk,ih (by omega),um hk,Gh,PQ,qD]
   have h1:=KP (l.take k)
   have h2:=fO (nth l k)
   omega
 have:=h l.length (Nat.le_refl _)
 rwa[zY,List.take_length] at this
theorem Ke(l:List Int):0≤jl l∧jl l≤1125899906842624:=by
 rw[Nt];have:=KP l;omega
theorem Nu(l:List Int)(k:Nat):0≤rA l k∧rA l k≤1125899906842624:=Ke _
theorem min_mul{p c:Int}(hp:0≤p)(hc:0≤c):min 1125899906842624 (min 1125899906842624 p*c)=min 1125899906842624 (p*c):=by
 by_cases h:p≤1125899906842624
 ·rw[show min 1125899906842624 p=p by omega]
 ·rw[show min 1125899906842624 p=1125899906842624 by omega]
  by_cases h0:c=0
  ·subst h0;rw[Int.mul_zero,Int.mul_zero]
  ·have h1:1125899906842624*1≤1125899906842624*c:=Int.mul_le_mul_of_nonneg_left (by omega) (by decide)
   have h2:1125899906842624*c≤p*c:=Int.mul_le_mul_of_nonneg_right (by omega) hc
   omega
theorem Ja(l:List Int):∀k,k≤l.length→rJ l k=min 1125899906842624 (nD (l.take k)):=by
 intro k
 induction k with
 |zero=>intro _;rfl
 |succ k ih=>
  intro hk
  have h1:=FB (l.take k)
  have h2:=fO (nth l k)
  rw[xR hk,ih (by omega),um hk,CE,Mm,nJ (by omega) h2.1 (by omega) h2.2,min_mul h1 h2.1]
theorem Ma(l:List Int):mi l=min 1125899906842624 (nD l):=by
 have:=Ja l l.length (Nat.le_refl _)
 rwa[AA,List.take_length] at this
theorem Ro(l:List Int):0≤mi l∧mi l≤1125899906842624:=by
 rw[Ma];have:=FB l;omega
theorem OL(l:List Int)(k:Nat):0≤rJ l k∧rJ l k≤1125899906842624:=Ro _
theorem La(l:List Int)(n:Int):jl (l++[n])=cnt (jl l+cnt n):=by
 unfold jl;rw[List.foldl_append];rfl
theorem DJ(a b:Int):jl [a,b]=cnt (cnt a+cnt b):=by
 show cnt (cnt (0+cnt a)+cnt b)=_
 rw[Int.zero_add,iY (fO a).1 (fO a).2]
theorem Fg(a b:Int):mi [a,b]=jI (cnt a) (cnt b):=by
 show jI (jI 1 (cnt a)) (cnt b)=_
 rw[nJ (by decide) (fO a).1 (by decide) (fO a).2,Int.one_mul]
 have:=fO a
 rw[show min 1125899906842624 (cnt a)=cnt a by omega]
structure May (N W R K:Int):Prop where
 n0:1≤N
 n1:N≤1048576
 w0:16≤W
 w1:W≤256
 r0:1≤R
 r1:R≤4096
 k0:1≤K
 k1:K≤65536
 nw:N*W≤4194304
theorem ND{n lo hi:Int}(h0:lo≤n)(h1:n≤hi):lJ n lo hi=n:=by
 unfold lJ;rw[if_neg (by omega),if_neg (by omega)]
theorem nU{a b:Int}(ha:0≤a)(hb:0≤b)(h:a+b≤1125899906842624):jl [a,b]=a+b:=by
 rw[DJ,iY ha (by omega),iY hb (by omega),iY (by omega) h]
theorem QG{a b c:Int}(ha:0≤a)(hb:0≤b)(hc:0≤c)(h:a+b+c≤1125899906842624):jl [a,b,c]=a+b+c:=by
 have:=La [a,b] c
 rw[show[a,b]++[c]=[a,b,c] from rfl,nU ha hb (by omega),iY hc (by omega),iY (by omega) h] at this
 exact this
theorem mI{a b:Int}(ha:0≤a)(hb:0≤b)(h1:a≤1125899906842624)(h2:b≤1125899906842624)(h:a*b≤1125899906842624):mi [a,b]=a*b:=by
 rw[Fg,iY ha h1,iY hb h2,nJ ha hb h1 h2]
 omega
theorem Qg{a b:Int}(ha:0≤a)(h1:a≤1125899906842624)(hb:1≤b)(h2:b≤1125899906842624):UT a b=(a+b-1)/b:=by
 have e:Nb b=b:=by unfold Nb;rw[iY (by omega) h2,if_neg (by omega)]
 unfold UT
 rw[e,iY ha h1]
def DC(N W R:Int):Int:=24+R+N*W
def jo(N W:Int):Int:=N*(W+1)
def iZ(N W:Int):Int:=3*(N*(W+1))+4
def aL(W:Int):Int:=(W-8)*(W-1)
def Ht(a b:Int):Int:=(a+b-1)/b
def TG(N W K:Int):Int:=2*Ht (iZ N W) K+2*(W-7)
def CX(N W K:Int):Int:=Ht (2*iZ N W+jo N W) K+2
theorem AB{a b A B:Int}(ha:0≤a)(hb:0≤b)(h1:a≤A)(h2:b≤B):0≤a*b∧a*b≤A*B:=
 ⟨Int.mul_nonneg ha hb,Int.mul_le_mul h1 h2 hb (by omega)⟩
theorem KG{N W R K:Int}(h:May N W R K):16≤N*W∧N*W≤4194304:=by
 have:=Int.mul_le_mul h.n0 h.w0 (by omega) (by have:=h.n0;omega)
 exact⟨by omega,h.nw⟩
theorem NL(N W:Int):jo N W=N*W+N:=by unfold jo;rw[Int.mul_add];omega
theorem Ei{N W R K:Int}(h:May N W R K):17≤jo N W∧jo N W≤5242880:=by
 have:=KG h
 have:=h.n0;have:=h.n1
 rw[NL];omega
theorem NP(N W:Int):iZ N W=3*jo N W+4:=rfl
theorem NN{N W R K:Int}(h:May N W R K):55≤iZ N W∧iZ N W≤15728644:=by
 have:=Ei h
 rw[NP];omega
theorem dU{W:Int}(h0:16≤W)(h1:W≤256):120≤aL W∧aL W≤63240:=by
 have a:=Int.mul_le_mul (show(8:Int)≤W-8 by omega) (show(15:Int)≤W-1 by omega) (by omega) (by omega)
 have b:=Int.mul_le_mul (show W-8≤248 by omega) (show W-1≤255 by omega) (by omega) (by omega)
 unfold aL;omega
theorem JL{a b:Int}(ha:0≤a)(hb:1≤b):0≤Ht a b∧Ht a b≤a∧a≤b*Ht a b∧b*Ht a b<a+b:=by
 unfold Ht
 have h1:=Int.emod_add_mul_ediv (a+b-1) b
 have h2:=Int.emod_nonneg (a+b-1) (show b≠0 by omega)
 have h3:=Int.emod_lt_of_pos (a+b-1) (show 0<b by omega)
 have h4:0≤(a+b-1)/b:=Int.ediv_nonneg (by omega) (by omega)
 refine⟨h4,?_,by omega,by omega⟩
 by_cases h5:a=0
 ·subst h5
  have:(0+b-1)/b=0:=Int.ediv_eq_zero_of_lt (by omega) (by omega)
  omega
 ·have h6:(a+b-1)/b<a+1:=by
   apply Int.ediv_lt_of_lt_mul (by omega)
   have h7:a*1≤a*b:=Int.mul_le_mul_of_nonneg_left hb ha
   have:(a+1)*b=a*b+b:=by rw[Int.add_mul];omega
   omega
  omega
def pw(n:Int):Int:=2^n.toNat
theorem qh(n:Int):0<pw n:=Int.pow_pos (by decide)
def dR(at' n:Int):Bool:=decide (0≤at'∧1≤n∧n≤32∧at'≤32-n)
theorem jU{a n:Int}(h:dR a n=true):0≤a∧1≤n∧n≤32∧a≤32-n:=of_decide_eq_true h
theorem Mk{a n:Int}(h:dR a n=false):¬(0≤a∧1≤n∧n≤32∧a≤32-n):=of_decide_eq_false h
def jb(w a n:Int):Int:=if dR a n=true then w/pw a%pw n else 0
def uH(v n:Int):Bool:=decide (v<pw n)
def FI(w a n v:Int):Int:=w-jb w a n*pw a+v*pw a
theorem SN{m n:Int}(h:m≤n):pw m≤pw n:=by
 unfold pw
 have h1:m.toNat≤n.toNat:=by omega
 have:=Nat.pow_le_pow_right (n:=2) (by decide) h1
 exact_mod_cast this
theorem Ul{m n:Int}(hm:0≤m)(hn:0≤n):pw (m+n)=pw m*pw n:=by
 unfold pw
 rw[Int.toNat_add hm hn,Int.pow_add]
theorem Po:pw 32=4294967296:=by decide
theorem VA:pw 0=1:=by decide
theorem Um{n:Int}(h:n≤0):pw n=1:=by
 unfold pw
 have:n.toNat=0:=by omega
 rw[this];rfl
theorem KL{n:Int}(h:n≤32):pw n≤4294967296:=by rw[←Po];exact SN h
theorem RI{n:Int}(h:32≤n):4294967296≤pw n:=by rw[←Po];exact SN h
theorem Rk{n:Int}(h1:1≤n)(h2:n≤32):(4294967295:Int)/2^(32-n).toNat=pw n-1:=by
 have e:pw n*pw (32-n)=4294967296:=by
  rw[←Ul (by omega) (by omega),show n+(32-n)=32 by omega,Po]
 have hp:=qh (32-n)
 have hq:=qh n
 show(4294967295:Int)/pw (32-n)=pw n-1
 have e2:(4294967295:Int)=(pw (32-n)-1)+(pw n-1)*pw (32-n):=by
  rw[Int.sub_mul,e];omega
 rw[e2,Int.add_mul_ediv_right _ _ (by omega),Int.ediv_eq_zero_of_lt (by omega) (by omega)]
 omega
theorem QS{w a n:Int}(h0:0≤w):0≤jb w a n:=by
 unfold jb;split
 ·exact Int.emod_nonneg _ (by have:=qh n;omega)
 ·exact Int.le_refl _
theorem QT{w a n:Int}:jb w a n<pw n:=by
 unfold jb;split
 ·exact Int.emod_lt_of_pos _ (qh n)
 ·exact qh n
theorem QR{w a n:Int}(h0:0≤w)(h1:w≤4294967295):jb w a n≤4294967295:=by
 by_cases hp:dR a n=true
 ·have h:=jU hp
  have:=QT (w:=w) (a:=a) (n:=n)
  have:=KL h.2.2.1
  omega
 ·have:jb w a n=0:=by unfold jb;rw[if_neg hp]
  omega
theorem QU{w a n:Int}(h0:0≤w)(h1:w≤4294967295)(hp:dR a n=true):
  bits .and .u32 (w/2^a.toNat) (pw n-1)=jb w a n:=by
 obtain⟨ha,hn1,hn2,hd⟩:=jU hp
 have hle:w/pw a≤w:=Int.ediv_le_self _ h0
 have hge:0≤w/pw a:=Int.ediv_nonneg h0 (Int.le_of_lt (qh a))
 have hm:=KL hn2
 have hp0:=qh n
 show bits .and .u32 (w/pw a) (pw n-1)=_
 rw[u32_and _ _ hge (by omega) (by omega) (by omega)]
 unfold jb
 rw[if_pos hp]
 obtain⟨X,hX⟩:=Int.eq_ofNat_of_zero_le hge
 rw[hX]
 have e:(pw n-1).toNat=2^n.toNat-1:=by
  unfold pw
  have:((2:Int)^n.toNat)=((2^n.toNat:Nat):Int):=by simp
  rw[this];omega
 rw[e,Int.toNat_natCast,Nat.and_two_pow_sub_one_eq_mod]
 unfold pw
 simp
theorem Jw(w a n:Nat):w=(w/2^(a+n))*2^(a+n)+(w/2^a%2^n)*2^a+w%2^a:=by
 have h1:=Nat.div_add_mod w (2^a)
 have h2:=Nat.div_add_mod (w/2^a) (2^n)
 rw[Nat.div_div_eq_div_mul,←Nat.pow_add] at h2
 have h3:2^a*(2^n*(w/2^(a+n)))=w/2^(a+n)*2^(a+n):=by
  rw[Nat.pow_add,←Nat.mul_assoc,Nat.mul_comm]
 have h4:2^a*(w/2^a)=2^a*(2^n*(w/2^(a+n)))+2^a*(w/2^a%2^n):=by
  rw[←Nat.mul_add,h2]
 have h5:2^a*(w/2^a%2^n)=w/2^a%2^n*2^a:=Nat.mul_comm _ _
 omega
theorem wR(w a n v:Nat)(hv:v<2^n)(hw:w<2^32)(hn:a+n≤32):
  (w &&& (4294967295-(2^n-1)*2^a)) ||| v*2^a=(w/2^(a+n))*2^(a+n)+v*2^a+w%2^a:=by
 have hmul:(2^n-1)*2^a<2^32:=by
  have h1:(2^n-1)*2^a<2^n*2^a:=Nat.mul_lt_mul_of_pos_right (by have:=Nat.two_pow_pos n;omega) (Nat.two_pow_pos a)
  rw[←Nat.pow_add] at h1
  exact Nat.lt_of_lt_of_le h1 (Nat.pow_le_pow_right (by decide) (by omega))
 have hlow:v*2^a+w%2^a<2^(a+n):=by
  have h1:(v+1)*2^a≤2^n*2^a:=Nat.mul_le_mul_right _ hv
  rw[Nat.add_mul,Nat.one_mul] at h1
  have h2:=Nat.mod_lt w (Nat.two_pow_pos a)
  rw[Nat.pow_add,Nat.mul_comm (2^a)]
  omega
 apply Nat.eq_of_testBit_eq
 intro j
 have e1:(4294967295-(2^n-1)*2^a)=2^32-((2^n-1)*2^a+1):=by omega
 rw[Nat.testBit_or,Nat.testBit_and,e1,Nat.testBit_two_pow_sub_succ hmul]
 rw[Nat.add_assoc,Nat.mul_comm (w/2^(a+n)),Nat.testBit_two_pow_mul_add _ hlow,Nat.mul_comm v,Nat.testBit_two_pow_mul_add _ (Nat.mod_lt w (Nat.two_pow_pos a))]
 rw[Nat.mul_comm (2^n-1),Nat.testBit_two_pow_mul,Nat.testBit_two_pow_mul,Nat.testBit_two_pow_sub_one,Nat.testBit_mod_two_pow,Nat.testBit_div_two_pow]
 by_cases hj:j<a
 ·have h1:¬a≤j:=by omega
  have h2:j<a+n:=by omega
  have h3:j<32:=by omega
  simp[hj,h1,h2,h3]
 ·by_cases hj2:j<a+n
  ·have h1:a≤j:=by omega
   have h2:j-a<n:=by omega
   simp[hj,hj2,h1,h2]
  ·have h1:a≤j:=by omega
   have h2:¬j-a<n:=by omega
   have h3:v.testBit (j-a)=false:=by
    apply Nat.testBit_lt_two_pow
    exact Nat.lt_of_lt_of_le hv (Nat.pow_le_pow_right (by decide) (by omega))
   have h4:a+n+(j-(a+n))=j:=by omega
   have h6:j-(a+n)+(a+n)=j:=by omega
   by_cases h5:j<32
   ·simp[hj,hj2,h1,h2,h3,h4,h5,h6]
   ·have hwj:w.testBit j=false:=by
     apply Nat.testBit_lt_two_pow
     exact Nat.lt_of_lt_of_le hw (Nat.pow_le_pow_right (by decide) (by omega))
    simp[hj,hj2,h1,h2,h3,h4,h5,h6,hwj]
theorem Uf{w a n v:Int}(h0:0≤w)(h1:w≤4294967295)(hv0:0≤v)(hp:dR a n=true)(hf:uH v n=true):
  bits .or .u32 (bits .andNot .u32 w (IntKind.u32.wrap ((pw n-1)*2^a.toNat))) (IntKind.u32.wrap (v*2^a.toNat))=FI w a n v:=by
 obtain⟨ha,hn1,hn2,hd⟩:=jU hp
 have hv:v<pw n:=of_decide_eq_true hf
 obtain⟨A,rfl⟩:=Int.eq_ofNat_of_zero_le ha
 obtain⟨N,rfl⟩:=Int.eq_ofNat_of_zero_le (by omega:0≤n)
 obtain⟨W,rfl⟩:=Int.eq_ofNat_of_zero_le h0
 obtain⟨V,rfl⟩:=Int.eq_ofNat_of_zero_le hv0
 have eN:pw (N:Int)=((2^N:Nat):Int):=by unfold pw;simp
 have eA:pw (A:Int)=((2^A:Nat):Int):=by unfold pw;simp
 have eA2:(2:Int)^(A:Int).toNat=((2^A:Nat):Int):=by simp
 have hV:V<2^N:=by rw[eN] at hv;exact_mod_cast hv
 have hs:A+N≤32:=by omega
 have hW:W<2^32:=by omega
 have hpos:=Nat.two_pow_pos N
 have eM:(pw (N:Int)-1)*2^(A:Int).toNat=(((2^N-1)*2^A:Nat):Int):=by
  rw[eN,eA2,Int.natCast_mul,Int.natCast_sub hpos];simp
 have eV:(V:Int)*2^(A:Int).toNat=((V*2^A:Nat):Int):=by rw[eA2,Int.natCast_mul]
 have bM:(2^N-1)*2^A<2^32:=by
  have h1:(2^N-1)*2^A<2^N*2^A:=Nat.mul_lt_mul_of_pos_right (by omega) (Nat.two_pow_pos A)
  rw[←Nat.pow_add] at h1
  exact Nat.lt_of_lt_of_le h1 (Nat.pow_le_pow_right (by decide) (by omega))
 have bV:V*2^A<2^32:=by
  have h1:V*2^A<2^N*2^A:=Nat.mul_lt_mul_of_pos_right hV (Nat.two_pow_pos A)
  rw[←Nat.pow_add] at h1
  exact Nat.lt_of_lt_of_le h1 (Nat.pow_le_pow_right (by decide) (by omega))
 rw[eM,eV,IntKind.wrap_u32,IntKind.wrap_u32]
 rw[show((((2^N-1)*2^A:Nat):Int))%4294967296=(((2^N-1)*2^A:Nat):Int) from by omega]
 rw[show((V*2^A:Nat):Int)%4294967296=((V*2^A:Nat):Int) from by omega]
 rw[u32_andNot _ _ (by omega) (by omega) (by omega) (by omega)]
 have hle:W &&& (4294967295-(2^N-1)*2^A)≤W:=Nat.and_le_left
 rw[Int.toNat_natCast,Int.toNat_natCast,u32_or _ _ (by omega) (by omega) (by omega) (by omega),Int.toNat_natCast,Int.toNat_natCast,wR W A N V hV hW hs]
 unfold FI jb
 rw[if_pos hp,eN,eA]
 have hsw:=Jw W A N
 have e1:((W:Int)/((2^A:Nat):Int)%((2^N:Nat):Int))=((W/2^A%2^N:Nat):Int):=by simp
 rw[e1,←Int.natCast_mul,←Int.natCast_mul]
 omega
theorem NR{v n:Int}(h0:0≤v)(h1:v≤4294967295)(hn:0≤n):(v/2^min n.toNat 32==0)=uH v n:=by
 unfold uH
 rw[Bool.eq_iff_iff,beq_iff_eq,decide_eq_true_iff]
 by_cases h:n≤32
 ·have e:min n.toNat 32=n.toNat:=by omega
  rw[e]
  show v/pw n=0↔v<pw n
  constructor
  ·intro hz
   have h2:=Int.lt_ediv_add_one_mul_self v (qh n)
   rw[hz] at h2
   omega
  ·intro hlt;exact Int.ediv_eq_zero_of_lt h0 hlt
 ·have e:min n.toNat 32=32:=by omega
  rw[e]
  have hz:v/2^32=0:=Int.ediv_eq_zero_of_lt h0 (by omega)
  have:=RI (n:=n) (by omega)
  constructor
  ·intro _;omega
  ·intro _;exact hz
theorem NQ{v n:Int}(h0:0≤v)(hn:n≤0):(v==0)=uH v n:=by
 unfold uH
 rw[Um hn,Bool.eq_iff_iff,beq_iff_eq,decide_eq_true_iff]
 omega
set_option maxHeartbeats 400000 in
theorem pX(n:Int)(w:World)(h1:1≤n)(h2:n≤32):
  Calls Tryz.prog 231 #[.int .i64 n] w fun e w'=>e=.returned (.bool true)∧w=w':=by
 go_enter Tryz.func231,Tryz.ntmps231
 go_wp2
 go_ret
 exact⟨rfl,rfl⟩
set_option maxHeartbeats 400000 in
theorem Iy(n:Int)(w:World)(h:¬(1≤n∧n≤32)):
  Calls Tryz.prog 231 #[.int .i64 n] w fun e w'=>e=.returned (.bool false)∧w=w':=by
 by_cases h1:1≤n
 ·have h2:¬n≤32:=fun h2=>h ⟨h1,h2⟩
  clear h
  go_enter Tryz.func231,Tryz.ntmps231
  go_wp2
  go_ret
  exact⟨rfl,rfl⟩
 ·clear h
  go_enter Tryz.func231,Tryz.ntmps231
  go_wp2
  go_ret
  exact⟨rfl,rfl⟩
set_option maxHeartbeats 400000 in
theorem pW(a n:Int)(w:World)(hp:dR a n=true):
  Calls Tryz.prog 224 #[.int .i64 a,.int .i64 n] w fun e w'=>e=.returned (.bool true)∧w=w':=by
 obtain⟨h0,h1,h2,h3⟩:=jU hp
 clear hp
 go_enter Tryz.func224,Tryz.ntmps224
 go_wp2_with (go_at_call 231;refine(pX _ _ (by omega) (by omega)).mono ?_;rintro e w' ⟨rfl,rfl⟩)
 go_ret
 exact⟨rfl,rfl⟩
set_option maxHeartbeats 400000 in
theorem xE(a n:Int)(w:World)(hp:dR a n=false):
  Calls Tryz.prog 224 #[.int .i64 a,.int .i64 n] w fun e w'=>e=.returned (.bool false)∧w=w':=by
 have h:=Mk hp
 clear hp
 by_cases hw:1≤n∧n≤32
 ·obtain⟨h1,h2⟩:=hw
  by_cases h0:0≤a
  ·have h3:¬a≤32-n:=fun h3=>h ⟨h0,h1,h2,h3⟩
   clear h
   go_enter Tryz.func224,Tryz.ntmps224
   go_wp2_with (go_at_call 231;refine(pX _ _ (by omega) (by omega)).mono ?_;rintro e w' ⟨rfl,rfl⟩)
   go_ret
   exact⟨aJ (decide_eq_false (by omega)),rfl⟩
  ·clear h
   go_enter Tryz.func224,Tryz.ntmps224
   go_wp2_with (go_at_call 231;refine(pX _ _ (by omega) (by omega)).mono ?_;rintro e w' ⟨rfl,rfl⟩)
   go_ret
   exact⟨rfl,rfl⟩
 ·clear h
  have hW:Hid (¬(1≤n∧n≤32)):=hw
  clear hw
  go_enter Tryz.func224,Tryz.ntmps224
  go_wp2_with (go_at_call 231;refine(Iy _ _ hW.out).mono ?_;rintro e w' ⟨rfl,rfl⟩)
  go_ret
  exact⟨rfl,rfl⟩
set_option maxHeartbeats 400000 in
theorem vM(n:Int)(w:World)(h1:1≤n)(h2:n≤32):
  Calls Tryz.prog 225 #[.int .i64 n] w fun e w'=>e=.returned (.int .u32 (pw n-1))∧w=w':=by
 go_enter Tryz.func225,Tryz.ntmps225
 go_wp2
 go_ret
 exact⟨bO (Rk h1 h2),rfl⟩
set_option maxHeartbeats 400000 in
theorem Es(v n:Int)(w:World)(h0:0≤v)(h1:v≤4294967295):
  Calls Tryz.prog 228 #[.int .u32 v,.int .i64 n] w fun e w'=>e=.returned (.bool (uH v n))∧w=w':=by
 by_cases hn:0≤n
 ·go_enter Tryz.func228,Tryz.ntmps228
  go_wp2
  go_ret
  exact⟨aJ (NR h0 h1 hn),rfl⟩
 ·go_enter Tryz.func228,Tryz.ntmps228
  go_wp2
  go_ret
  exact⟨aJ (NQ h0 (by omega)),rfl⟩
set_option maxHeartbeats 400000 in
theorem QW(x a n:Int)(w:World)(h0:0≤x)(h1:x≤4294967295)(hp:dR a n=true):
  Calls Tryz.prog 205 #[.int .u32 x,.int .i64 a,.int .i64 n] w fun e w'=>e=.returned (.int .u32 (jb x a n))∧∃k,w'=w.drewN k:=by
 obtain⟨g0,g1,g2,g3⟩:=jU hp
 have HG:Hid (bits .and .u32 (x/2^a.toNat) (pw n-1)=jb x a n):=QU h0 h1 hp
 have HP:Hid (dR a n=true):=hp
 clear hp
 go_enter Tryz.func205,Tryz.ntmps205
 go_wp2_with (go_at_call 224;refine(pW _ _ _ HP.out).mono ?_;rintro e w' ⟨rfl,rfl⟩)
 go_quiet ((go_at_call 225;exact FN (vM _ _ g1 g2)))
 go_wp2
 go_ret
 exact⟨bO HG.out,_,rfl⟩
set_option maxHeartbeats 400000 in
theorem Tp(x a n:Int)(w:World)(hp:dR a n=false):
  Calls Tryz.prog 205 #[.int .u32 x,.int .i64 a,.int .i64 n] w fun e w'=>e=.returned (.int .u32 0)∧w=w':=by
 have HP:Hid (dR a n=false):=hp
 clear hp
 go_enter Tryz.func205,Tryz.ntmps205
 go_wp2_with (go_at_call 224;refine(xE _ _ _ HP.out).mono ?_;rintro e w' ⟨rfl,rfl⟩)
 go_ret
 exact⟨rfl,rfl⟩
theorem RO{a b c:Int}(h:a=b):Ending.returned (.tuple #[.int .u32 a,.int .i64 c])=.returned (.tuple #[.int .u32 b,.int .i64 c]):=by rw[h]
set_option maxHeartbeats 400000 in
theorem Ue(x a n v:Int)(w:World)(hp:dR a n=false):
  Calls Tryz.prog 209 #[.int .u32 x,.int .i64 a,.int .i64 n,.int .u32 v] w fun e w'=>e=.returned (.tuple #[.int .u32 0,.int .i64 2])∧w=w':=by
 have HP:Hid (dR a n=false):=hp
 clear hp
 go_enter Tryz.func209,Tryz.ntmps209
 go_wp2_with (go_at_call 224;refine(xE _ _ _ HP.out).mono ?_;rintro e w' ⟨rfl,rfl⟩)
 go_ret2
 exact⟨rfl,rfl⟩
set_option maxHeartbeats 400000 in
theorem RG(x a n v:Int)(w:World)(hp:dR a n=true)(hv0:0≤v)(hv1:v≤4294967295)(hf:uH v n=false):
  Calls Tryz.prog 209 #[.int .u32 x,.int .i64 a,.int .i64 n,.int .u32 v] w fun e w'=>e=.returned (.tuple #[.int .u32 0,.int .i64 15])∧w=w':=by
 have HP:Hid (dR a n=true):=hp
 clear hp
 go_enter Tryz.func209,Tryz.ntmps209
 go_wp2_with (first|(go_at_call 224;refine(pW _ _ _ HP.out).mono ?_;rintro e w' ⟨rfl,rfl⟩)|(go_at_call 228;refine(Es _ _ _ hv0 hv1).mono ?_;rintro e w' ⟨rfl,rfl⟩))
 go_ret2
 exact⟨rfl,rfl⟩
set_option maxHeartbeats 400000 in
theorem RH(x a n v:Int)(w:World)(h0:0≤x)(h1:x≤4294967295)(hp:dR a n=true)(hv0:0≤v)(hv1:v≤4294967295)(hf:uH v n=true):
  Calls Tryz.prog 209 #[.int .u32 x,.int .i64 a,.int .i64 n,.int .u32 v] w fun e w'=>e=.returned (.tuple #[.int .u32 (FI x a n v),.int .i64 0])∧∃k,w'=w.drewN k:=by
 obtain⟨g0,g1,g2,g3⟩:=jU hp
 have HG:Hid (bits .or .u32 (bits .andNot .u32 x (IntKind.u32.wrap ((pw n-1)*2^a.toNat))) (IntKind.u32.wrap (v*2^a.toNat))=FI x a n v):=Uf h0 h1 hv0 hp hf
 have HP:Hid (dR a n=true):=hp
 clear hp
 go_enter Tryz.func209,Tryz.ntmps209
 go_wp2_with (first|(go_at_call 224;refine(pW _ _ _ HP.out).mono ?_;rintro e w' ⟨rfl,rfl⟩)|(go_at_call 228;refine(Es _ _ _ hv0 hv1).mono ?_;rintro e w' ⟨rfl,rfl⟩))
 go_quiet ((go_at_call 225;exact FN (vM _ _ g1 g2)))
 go_wp2
 go_ret2
 exact⟨RO HG.out,_,rfl⟩
def tY(x a n v:Int):Int:=if dR a n=true then(if uH v n=true then FI x a n v else 0) else 0
def Pg(a n v:Int):Int:=if dR a n=true then(if uH v n=true then 0 else 15) else 2
theorem FK{x a n v:Int}(h1:dR a n=true)(h2:uH v n=true):tY x a n v=FI x a n v:=by unfold tY;rw[if_pos h1,if_pos h2]
theorem Ph{a n v:Int}(h1:dR a n=true)(h2:uH v n=true):Pg a n v=0:=by unfold Pg;rw[if_pos h1,if_pos h2]
theorem yj{a b c d:Int}(h:a=b)(h2:c=d):Ending.returned (.tuple #[.int .u32 a,.int .i64 c])=.returned (.tuple #[.int .u32 b,.int .i64 d]):=by rw[h,h2]
theorem QV(x a n:Int)(w:World)(h0:0≤x)(h1:x≤4294967295):
  Calls Tryz.prog 205 #[.int .u32 x,.int .i64 a,.int .i64 n] w fun e w'=>e=.returned (.int .u32 (jb x a n))∧dK w w':=by
 cases hp:dR a n
 ·refine(Tp x a n w hp).mono fun e w' ⟨he,hw⟩=>⟨?_,hw▸dK.refl w⟩
  rw[he];exact bO (by unfold jb;rw[hp];rfl)
 ·exact QW x a n w h0 h1 hp
theorem RF(x a n v:Int)(w:World)(h0:0≤x)(h1:x≤4294967295)(hv0:0≤v)(hv1:v≤4294967295):
  Calls Tryz.prog 209 #[.int .u32 x,.int .i64 a,.int .i64 n,.int .u32 v] w fun e w'=>e=.returned (.tuple #[.int .u32 (tY x a n v),.int .i64 (Pg a n v)])∧dK w w':=by
 cases hp:dR a n
 ·refine(Ue x a n v w hp).mono fun e w' ⟨he,hw⟩=>⟨?_,hw▸dK.refl w⟩
  rw[he];exact yj (by unfold tY;rw[hp];rfl) (by unfold Pg;rw[hp];rfl)
 ·cases hf:uH v n
  ·refine(RG x a n v w hp hv0 hv1 hf).mono fun e w' ⟨he,hw⟩=>⟨?_,hw▸dK.refl w⟩
   rw[he];exact yj (by unfold tY;rw[hp,hf];rfl) (by unfold Pg;rw[hp,hf];rfl)
  ·refine(RH x a n v w h0 h1 hp hv0 hv1 hf).mono fun e w' ⟨he,hw⟩=>⟨?_,hw⟩
   rw[he];exact yj (FK hp hf).symm (Ph hp hf).symm
open Classical in
open Classical in
open Classical in
open Classical in
def jQ(n b:Int):Bool:=decide (0≤n∧n<b)
theorem Kt{n b:Int}(h:jQ n b=true):0≤n∧n<b:=of_decide_eq_true h
theorem TC{n b:Int}(h:0≤n∧n<b):jQ n b=true:=decide_eq_true h
theorem Kr{n b:Int}(h:¬(0≤n∧n<b)):jQ n b=false:=decide_eq_false h
def vF(c n s d g:Int):Bool:=jQ c 2&&jQ n 2&&jQ s 2&&jQ d 2&&jQ g 2
def rM(c n s d g:Int):Bool:=decide (c=0∧n=0∧s=0∧d=0∧g=0)
def dY(k c n s d g o:Int):Bool:=jQ k 4&&jQ o 1048576&&(k==3||o==0)&&vF c n s d g&&(!(k==0||k==3)||rM c n s d g)
def dI(k c n s d g o:Int):Prop:=
 (0≤k∧k<4)∧(0≤o∧o<1048576)∧(k=3∨o=0)∧(0≤c∧c<2)∧(0≤n∧n<2)∧(0≤s∧s<2)∧(0≤d∧d<2)∧(0≤g∧g<2)∧((k=0∨k=3)→c=0∧n=0∧s=0∧d=0∧g=0)
theorem jX{k c n s d g o:Int}:dY k c n s d g o=true↔dI k c n s d g o:=by
 unfold dY dI vF rM jQ
 simp only[Bool.and_eq_true,Bool.or_eq_true,Bool.not_eq_true',Bool.or_eq_false_iff,decide_eq_true_eq,beq_iff_eq,beq_eq_false_iff_ne,ne_eq]
 omega
theorem ym{k c n s d g o:Int}(h:dY k c n s d g o=true):dI k c n s d g o:=jX.1 h
theorem lw{k c n s d g o:Int}(h:dI k c n s d g o):dY k c n s d g o=true:=jX.2 h
theorem Ms{k c n s d g o:Int}(h:¬dI k c n s d g o):dY k c n s d g o=false:=by
 cases h2:dY k c n s d g o with
 |false=>rfl
 |true=>exact absurd (ym h2) h
theorem xe{a b:Bool}(h:a=true↔b=true):a=b:=by cases a<;>cases b<;>simp_all
theorem AC{c n s d g:Int}:rM c n s d g=true↔c=0∧n=0∧s=0∧d=0∧g=0:=by unfold rM;simp
theorem Lc{c n s d g:Int}:vF c n s d g=true↔(0≤c∧c<2)∧(0≤n∧n<2)∧(0≤s∧s<2)∧(0≤d∧d<2)∧(0≤g∧g<2):=by
 unfold vF jQ;simp[and_assoc]
theorem VF{k c n s d g o:Int}(h:jQ k 4=false):dY k c n s d g o=false:=by unfold dY;rw[h];rfl
theorem VG{k c n s d g o:Int}(h:jQ o 1048576=false):dY k c n s d g o=false:=by unfold dY;rw[h];simp
theorem Uq{k c n s d g o:Int}(h:¬k=3)(h2:¬o=0):dY k c n s d g o=false:=by
 refine Ms fun hr=> ?_
 obtain⟨_,_,h3,_⟩:=hr
 omega
theorem VE{c n s d g o:Int}(h:jQ o 1048576=true):dY 3 c n s d g o=rM c n s d g:=by
 have:=Kt h
 refine xe ?_
 rw[jX,AC];unfold dI
 omega
theorem VD{c n s d g:Int}:dY 0 c n s d g 0=rM c n s d g:=by
 refine xe ?_
 rw[jX,AC];unfold dI
 omega
theorem VI{k c n s d g:Int}(h:jQ k 4=true)(h0:¬k=0)(h3:¬k=3):dY k c n s d g 0=vF c n s d g:=by
 have:=Kt h
 refine xe ?_
 rw[jX,Lc];unfold dI
 omega
def dL(k c n s d g o:Int):Int:=k+4*c+8*n+16*s+32*d+64*g+256*o
theorem Pi{x a n v:Int}(h0:0≤x)(hx:x<pw a)(hp:dR a n=true):FI x a n v=x+v*pw a:=by
 unfold FI jb
 rw[if_pos hp,Int.ediv_eq_zero_of_lt h0 hx]
 simp
theorem lX{x a n v:Int}(h0:0≤x)(hx:x<pw a)(hp:dR a n=true)(hf:v<pw n):tY x a n v=x+v*pw a:=by
 rw[FK hp (decide_eq_true hf),Pi h0 hx hp]
theorem zl:pw 1=2:=by decide
theorem Pn:pw 2=4:=by decide
theorem Ug:pw 3=8:=by decide
theorem Uh:pw 4=16:=by decide
theorem Ui:pw 5=32:=by decide
theorem Uj:pw 6=64:=by decide
theorem Uk:pw 8=256:=by decide
theorem SL:pw 24=16777216:=by decide
def TV(k:Int):Int:=tY 0 0 2 k
def TW(k c:Int):Int:=tY (TV k) 2 1 c
def TY(k c n:Int):Int:=tY (TW k c) 3 1 n
def TZ(k c n s:Int):Int:=tY (TY k c n) 4 1 s
def Ua(k c n s d:Int):Int:=tY (TZ k c n s) 5 1 d
def Ub(k c n s d g:Int):Int:=tY (Ua k c n s d) 6 1 g
def Ws(k c n s d g o:Int):Int:=tY (Ub k c n s d g) 8 24 o
theorem Uc{k c n s d g o:Int}(h:dI k c n s d g o):
  Ws k c n s d g o=dL k c n s d g o∧(0≤TV k∧TV k≤4294967295)∧(0≤TW k c∧TW k c≤4294967295)∧(0≤TY k c n∧TY k c n≤4294967295)∧(0≤TZ k c n s∧TZ k c n s≤4294967295)∧(0≤Ua k c n s d∧Ua k c n s d≤4294967295)∧(0≤Ub k c n s d g∧Ub k c n s d g≤4294967295):=by
 obtain⟨h1,h2,h3,h4,h5,h6,h7,h8,h9⟩:=h
 have e0:TV k=k:=by
  unfold TV;rw[lX (by omega) (by decide) (by decide) (by rw[Pn];omega),VA];omega
 have e1:TW k c=k+4*c:=by
  unfold TW;rw[e0,lX (by omega) (by rw[Pn];omega) (by decide) (by rw[zl];omega),Pn];omega
 have e2:TY k c n=k+4*c+8*n:=by
  unfold TY;rw[e1,lX (by omega) (by rw[Ug];omega) (by decide) (by rw[zl];omega),Ug];omega
 have e3:TZ k c n s=k+4*c+8*n+16*s:=by
  unfold TZ;rw[e2,lX (by omega) (by rw[Uh];omega) (by decide) (by rw[zl];omega),Uh];omega
 have e4:Ua k c n s d=k+4*c+8*n+16*s+32*d:=by
  unfold Ua;rw[e3,lX (by omega) (by rw[Ui];omega) (by decide) (by rw[zl];omega),Ui];omega
 have e5:Ub k c n s d g=k+4*c+8*n+16*s+32*d+64*g:=by
  unfold Ub;rw[e4,lX (by omega) (by rw[Uj];omega) (by decide) (by rw[zl];omega),Uj];omega
 have e6:Ws k c n s d g o=k+4*c+8*n+16*s+32*d+64*g+256*o:=by
  unfold Ws;rw[e5,lX (by omega) (by rw[Uk];omega) (by decide) (by rw[SL];omega),Uk];omega
 unfold dL
 omega
def uK(x:Int):Int:=x%4
def uC(x:Int):Int:=x/4%2
def uN(x:Int):Int:=x/8%2
def uS(x:Int):Int:=x/16%2
def uD(x:Int):Int:=x/32%2
def uG(x:Int):Int:=x/64%2
def uO(x:Int):Int:=x/256
theorem Tv(x:Int):jb x 0 2=uK x:=by
 unfold jb uK;rw[if_pos (by decide),VA,Pn,Int.ediv_one]
theorem Tq(x:Int):jb x 2 1=uC x:=by unfold jb uC;rw[if_pos (by decide),zl,Pn]
theorem Tw(x:Int):jb x 3 1=uN x:=by unfold jb uN;rw[if_pos (by decide),zl,Ug]
theorem Ty(x:Int):jb x 4 1=uS x:=by unfold jb uS;rw[if_pos (by decide),zl,Uh]
theorem Tt(x:Int):jb x 5 1=uD x:=by unfold jb uD;rw[if_pos (by decide),zl,Ui]
theorem Tu(x:Int):jb x 6 1=uG x:=by unfold jb uG;rw[if_pos (by decide),zl,Uj]
theorem Tx{x:Int}(h0:0≤x)(h1:x≤4294967295):jb x 8 24=uO x:=by
 unfold jb uO;rw[if_pos (by decide),Uk,SL];omega
theorem unpack_pack{k c n s d g o:Int}(h:dI k c n s d g o):
  uK (dL k c n s d g o)=k∧uC (dL k c n s d g o)=c∧uN (dL k c n s d g o)=n∧uS (dL k c n s d g o)=s∧uD (dL k c n s d g o)=d∧uG (dL k c n s d g o)=g∧uO (dL k c n s d g o)=o:=by
 obtain⟨h1,h2,h3,h4,h5,h6,h7,h8,h9⟩:=h
 unfold dL uK uC uN uS uD uG uO
 omega
theorem Fw(x:Int):dL (uK x) (uC x) (uN x) (uS x) (uD x) (uG x) (uO x)=x-128*(x/128%2):=by
 unfold dL uK uC uN uS uD uG uO
 omega
def wJ(W:Int):Bool:=decide (16≤W∧W≤256)
theorem nN{W:Int}(h:wJ W=true):16≤W∧W≤256:=of_decide_eq_true h
theorem ut{W:Int}(h0:16≤W)(h1:W≤256):wJ W=true:=decide_eq_true ⟨h0,h1⟩
theorem uu{W:Int}(h:¬(16≤W∧W≤256)):wJ W=false:=decide_eq_false h
def bA(W n:Int):Int:=if n≤W-8 then 0 else Ht n (W-1)
def vo(l:Int):Int:=if l= -1 then 8 else 1
def uA(W l:Int):Int:=mi [l,W-1]
def bX(W n:Int):Int:=if wJ W=true then(if n<0∨aL W<n then 3 else 0) else 1
def bF(W p d:Int):Int:=if wJ W=true then(if p<0∨d<0∨aL W<p+d then 3 else 0) else 1
def aZ(W p d:Int):Int:=if bF W p d=0 then 1+bA W (p+d) else 0
def cZ(W n i:Int):Int:=if bX W n=0 then(if i<0∨n≤i then 7 else 0) else bX W n
def iM(W n i:Int):Int:=if cZ W n i=0 then(if n≤W-8 then -1 else i/(W-1)) else 0
def gJ(W n i:Int):Int:=if cZ W n i=0 then(if n≤W-8 then 8+i else 1+i%(W-1)) else 0
theorem qY{W n:Int}(h:bX W n=0):16≤W∧W≤256∧0≤n∧n≤aL W:=by
 unfold bX at h
 split at h
 ·rename_i hw
  have:=nN hw
  split at h
  ·cases h
  ·omega
 ·cases h
theorem Bj{W n:Int}(h0:16≤W)(h1:W≤256)(h2:0≤n)(h3:n≤aL W):bX W n=0:=by
 unfold bX;rw[if_pos (ut h0 h1),if_neg (by omega)]
theorem uk{W p d:Int}(h:bF W p d=0):16≤W∧W≤256∧0≤p∧0≤d∧p+d≤aL W:=by
 unfold bF at h
 split at h
 ·rename_i hw
  have:=nN hw
  split at h
  ·cases h
  ·omega
 ·cases h
theorem qN{W n i:Int}(h:cZ W n i=0):bX W n=0∧0≤i∧i<n:=by
 unfold cZ at h
 split at h
 ·split at h
  ·cases h
  ·exact⟨by assumption,by omega,by omega⟩
 ·exact absurd h (by assumption)
theorem qM{W n i:Int}(h:bX W n=0)(h0:0≤i)(h1:i<n):cZ W n i=0:=by
 unfold cZ;rw[if_pos h,if_neg (by omega)]
theorem jR{W n:Int}(h0:16≤W)(h1:W≤256)(h2:W-8<n)(h3:n≤aL W):
  1≤bA W n∧bA W n≤W-8∧n≤bA W n*(W-1)∧bA W n*(W-1)<n+W-1:=by
 have e:bA W n=Ht n (W-1):=by unfold bA;rw[if_neg (by omega)]
 have u:=JL (a:=n) (b:=W-1) (by omega) (by omega)
 rw[e]
 rw[Int.mul_comm (W-1)] at u
 refine⟨?_,?_,u.2.2.1,by omega⟩
 ·by_cases h:1≤Ht n (W-1)
  ·exact h
  ·have:Ht n (W-1)=0:=by omega
   rw[this,Int.zero_mul] at u
   omega
 ·by_cases h:Ht n (W-1)≤W-8
  ·exact h
  ·have h4:(W-8+1)*(W-1)≤Ht n (W-1)*(W-1):=Int.mul_le_mul_of_nonneg_right (by omega) (by omega)
   rw[Int.add_mul] at h4
   have:(W-8)*(W-1)=aL W:=rfl
   omega
theorem iG{W n:Int}(h:n≤W-8):bA W n=0:=by unfold bA;rw[if_pos h]
theorem lm{W n:Int}(h0:16≤W)(h1:W≤256)(h3:n≤aL W):0≤bA W n∧bA W n≤W-8:=by
 by_cases h:n≤W-8
 ·rw[iG h];omega
 ·have:=jR h0 h1 (by omega) h3;omega
theorem Kz{m a b:Int}(hm:1≤m)(h:a<b):a*m+m≤b*m:=by
 have:(a+1)*m≤b*m:=Int.mul_le_mul_of_nonneg_right (by omega) (by omega)
 rw[Int.add_mul] at this
 omega
theorem Ri{m a b:Int}(hm:1≤m)(h:a≤b):a*m≤b*m:=Int.mul_le_mul_of_nonneg_right h (by omega)
theorem Lb{W l:Int}(h0:16≤W)(h1:W≤256)(h:l≤0):uA W l=0:=by
 unfold uA
 rw[Fg,Tj h,iY (by omega) (by omega),nJ (by omega) (by omega) (by omega) (by omega),Int.zero_mul]
 rfl
theorem Nw{W l:Int}(h0:16≤W)(h1:W≤256)(h:0≤l)(h2:l≤256):uA W l=l*(W-1):=by
 unfold uA
 have:=AB h (show 0≤W-1 by omega) h2 (show W-1≤255 by omega)
 exact mI (by omega) (by omega) (by omega) (by omega) (by omega)
theorem KJ{m i:Int}(hm:1≤m)(hi:0≤i):i=(i/m)*m+i%m∧0≤i%m∧i%m<m∧0≤i/m:=
 ⟨by have:=Int.emod_add_mul_ediv i m;rw[Int.mul_comm] at this;omega,Int.emod_nonneg _ (by omega),Int.emod_lt_of_pos _ (by omega),Int.ediv_nonneg hi (by omega)⟩
theorem mM{W n i:Int}(h:cZ W n i=0)(hn:n≤W-8):iM W n i= -1∧gJ W n i=8+i:=by
 unfold iM gJ;rw[if_pos h,if_pos hn,if_pos h,if_pos hn];exact⟨rfl,rfl⟩
theorem qO{W n i:Int}(h:cZ W n i=0)(hn:W-8<n):iM W n i=i/(W-1)∧gJ W n i=1+i%(W-1):=by
 unfold iM gJ;rw[if_pos h,if_neg (by omega),if_pos h,if_neg (by omega)];exact⟨rfl,rfl⟩
theorem mO{W n i:Int}(h:cZ W n i≠0):iM W n i=0∧gJ W n i=0:=by
 unfold iM gJ;rw[if_neg h,if_neg h];exact⟨rfl,rfl⟩
end Go.Proofs.YtjmifnljckmimaaGreat.Pk
