/-
  Texts laid together: Base, NumMath, PackFn, TagMath, ShapeMath.
-/
import Derived.WalkKit
import Derived.WalkSpells
import Derived.WalkLawsBesides
import Derived.Deep.QuietTactic
import Derived.BigQuiet
import Derived.Lib.Hide
import Derived.Laws.NewBlocks
import Derived.OneCell
import Derived.Laws.MakeOwn
import Derived.Laws.OwnMore
import Derived.Test.YtofhdfjkhfkhiaaGreatProg
import Derived.IntWalk
namespace Go.Proofs.YtofhdfjkhfkhiaaGreat.Pk
open Lib (hid)
open Go.RowKit
set_option linter.unusedVariables false
set_option linter.unusedSimpArgs false
def nth(zs:List Int)(i:Nat):Int:=zs.getD i 0
def Row(w:World)(k:IntKind)(a:Option Addr)(zs:List Int):Prop:=
 ∀i,i<zs.length→∃b off,a=some ⟨b,off,none⟩∧b<w.heap.size∧w.cell? ⟨b,off+i,none⟩=some (.int k (nth zs i))
theorem Row.nil(w:World)(k:IntKind)(a:Option Addr):Row w k a []:=fun _ h=>absurd h (Nat.not_lt_zero _)
theorem Row.below{w w':World}{k:IntKind}{a:Option Addr}{zs:List Int}{B:Nat}(h:Row w k a zs)(hb:Below B w w')(hB:w.heap.size≤B):Row w' k a zs:=by
 intro i hi
 obtain⟨b,off,ha,hlt,hc⟩:=h i hi
 exact⟨b,off,ha,Nat.lt_of_lt_of_le hlt hb.size,by rw[hb.cell (p:=⟨b,off+i,none⟩) (Nat.lt_of_lt_of_le hlt hB)];exact hc⟩
theorem Row.drewN{w:World}{k:IntKind}{a:Option Addr}{zs:List Int}(h:Row w k a zs)(n:Nat):Row (w.drewN n) k a zs:=by
 intro i hi
 obtain⟨b,off,ha,hlt,hc⟩:=h i hi
 exact⟨b,off,ha,hlt,hc⟩
theorem Row.alloc{w:World}{k:IntKind}{a:Option Addr}{zs:List Int}(h:Row w k a zs)(o:Obj):Row (w.alloc o) k a zs:=
 h.below ((Below.refl w.heap.size w).alloc (Nat.le_refl _) o) (Nat.le_refl _)
theorem Row.later{w w':World}{k:IntKind}{a:Option Addr}{zs:List Int}(h:Row w k a zs)(hb:Below w.heap.size w w'):Row w' k a zs:=h.below hb (Nat.le_refl _)
theorem below_step{w w1 w2:World}(h:Below w.heap.size w w1)(h2:Below w1.heap.size w1 w2):Below w.heap.size w w2:=h.trans (h2.mono h.size)
theorem below_new(w:World)(o:Obj):Below w.heap.size w (w.alloc o):=(Below.refl _ _).alloc (Nat.le_refl _) o
theorem jL{w w1:World}(h:Below w.heap.size w w1){p:Addr}(hp:w.heap.size≤p.block)(u:Value):Below w.heap.size w (w1.setCell p u):=h.setCell hp u
theorem ve{w:World}{a:Addr}{v:Value}(h:w.cell? a=some v):a.block<w.heap.size:=by
 by_cases hlt:a.block<w.heap.size
 ·exact hlt
 ·unfold World.cell? at h
  rw[Array.getElem?_eq_none (by omega)] at h
  cases h
theorem yF{w:World}{a:Addr}{v:Value}(h:w.cell? a=some v):a.spot=none:=by
 unfold World.cell? at h
 split at h
 ·split at h
  ·cases h
  ·rename_i hs
   cases hsp:a.spot with
   |none=>rfl
   |some k=>rw[hsp] at hs;exact absurd rfl hs
 ·cases h
theorem Nk{W:World}{k:IntKind}{x:Addr}{len cap:Nat}{zs:List Int}(hl:len≤cap)(hm:cap≤maxLen)(hz:zs.length=cap)
  (hcell:∀i,i<zs.length→W.cell? (x.add i)=some (.int k (zs.getD i 0))) (hwz:∀n∈zs,(Lit.int k n).wf=true):
  ∃es:List Int,len=es.length∧Row W k (some x) es∧(∀n∈es,(Lit.int k n).wf=true)∧len≤maxLen:=by
 refine⟨zs.take len,by simp;omega,?_,fun n hn=>hwz n (List.mem_of_mem_take hn),Nat.le_trans hl hm⟩
 intro i hi
 have hi1:i<len:=by simp at hi;omega
 obtain⟨b,off,spot⟩:=x
 have hs:=yF (hcell 0 (by omega))
 simp[Addr.add] at hs
 subst hs
 have hadd:(⟨b,off,none⟩:Addr).add i=⟨b,off+i,none⟩:=by
  unfold Addr.add
  by_cases h0:i=0
  ·subst h0;rfl
  ·simp[h0]
 have hc:=hcell i (by omega)
 rw[hadd] at hc
 refine⟨b,off,rfl,ve hc,?_⟩
 rw[hc]
 unfold nth
 simp[List.getD,hi1]
def bR(w w':World):Prop:=∃m,w'=w.drewN m
theorem bR.refl(w:World):bR w w:=⟨0,rfl⟩
theorem bR.step{w w':World}(h:bR w w')(n:Nat):bR w (w'.drewN n):=by
 obtain⟨m,rfl⟩:=h;exact⟨m+n,World.drewN_drewN _ _ _⟩
theorem bR.size{w w':World}(h:bR w w'):w'.heap.size=w.heap.size:=by obtain⟨m,rfl⟩:=h;rfl
theorem bR.below{w w':World}(h:bR w w')(B:Nat):Below B w w':=by obtain⟨m,rfl⟩:=h;exact⟨rfl,rfl,rfl,Nat.le_refl _,fun _ _=>rfl⟩
theorem bR.new{w w':World}(h:bR w w'):Below w.heap.size w w':=h.below _
theorem Row.bE{w w':World}{k:IntKind}{a:Option Addr}{zs:List Int}(h:Row w k a zs)(d:bR w w'):Row w' k a zs:=by
 obtain⟨m,rfl⟩:=d;exact h.drewN m
theorem ax{a b:Bool}(h:a=b):Ending.returned (.bool a)=.returned (.bool b):=by rw[h]
theorem bi{k:IntKind}{a b:Int}(h:a=b):Ending.returned (.int k a)=.returned (.int k b):=by rw[h]
theorem Dy{P:Program}{f:FuncId}{args:Array Value}{w:World}{n:Nat}{v:Value}
  (h:Calls P f args (w.drewN n) fun e w'=>e=.returned v∧w.drewN n=w'):Calls P f args (w.drewN n) fun e w''=>e=.returned v∧∃m,w''=w.drewN m:=
 h.mono fun _ _ ⟨he,hm⟩=>⟨he,n,hm.symm⟩
theorem Row.of_owns{w:World}{B:Nat}{e:TypeId}{k:IntKind}{v:Value}{zs:List Int}(h:w.ownsRow B e 1 v zs.length (zs.map (Value.int k))):
  ∃a cap,v=.slice a zs.length cap∧Row w k a zs:=by
 rcases h.2 with⟨h1,h2⟩|⟨g,cap,cur,h1,_,hg,_⟩
 ·refine⟨none,0,by rw[h1,h2],fun i hi=> ?_⟩
  omega
 ·refine⟨some ⟨g,0,none⟩,cap,h1,fun i hi=>⟨g,0,rfl,?_,?_⟩⟩
  ·by_cases hlt:g<w.heap.size
   ·exact hlt
   ·rw[Array.getElem?_eq_none (by omega)] at hg
    cases hg
  ·subst h1
   have hc:=h.cellAt i (by omega)
   rw[Nat.zero_add,hc,List.getElem?_map]
   show Option.map (Value.int k) zs[i]? =some (Value.int k (zs.getD i 0))
   simp[List.getD,hi]
theorem owns_block{w:World}{B:Nat}{e:TypeId}{size:Nat}{v:Value}{n:Nat}{xs:List Value}(h:w.ownsRow B e size v n xs):∀k,v.ownBlock=some k→B≤k:=by
 intro k hk
 rcases h.2 with⟨h1,_⟩|⟨g,cap,cur,h1,hb,_⟩
 ·subst h1;cases hk
 ·subst h1
  simp[Value.ownBlock] at hk
  omega
theorem Row.lit(w:World)(k:IntKind)(zs:List Int)(t:TypeId):Row (w.alloc (.cells (zs.map (Value.int k)).toArray t)) k (some ⟨w.heap.size,0,none⟩) zs:=by
 intro i hi
 refine⟨w.heap.size,0,rfl,by simp,?_⟩
 rw[Nat.zero_add,World.cell?_alloc_at _ _ _ _ rfl]
 show(zs.map (Value.int k)).toArray[i]? =some (Value.int k (zs.getD i 0))
 simp[List.getD,hi]
theorem Hl{B:Nat}{W w1:World}(hb:Below B W w1):(∀b o,b<B→w1.cell? ⟨b,o,none⟩=W.cell? ⟨b,o,none⟩)∧(∀b o,b<B→w1.frozen? ⟨b,o,none⟩=W.frozen? ⟨b,o,none⟩):=
 ⟨fun b o h=>hb.cell (p:=⟨b,o,none⟩) h,fun b o h=>hb.frozen (p:=⟨b,o,none⟩) h⟩
structure Touch (X:Nat→Prop) (w w':World):Prop where
 os:w'.os=w.os
 tape:w'.tape=w.tape
 output:w'.output=w.output
 size:w.heap.size≤w'.heap.size
 block:∀k,k<w.heap.size→¬X k→w'.heap[k]? =w.heap[k]?
theorem Touch.refl(X:Nat→Prop)(w:World):Touch X w w:=⟨rfl,rfl,rfl,Nat.le_refl _,fun _ _ _=>rfl⟩
theorem Touch.trans{X:Nat→Prop}{a b c:World}(h:Touch X a b)(k:Touch X b c):Touch X a c:=
 ⟨k.os.trans h.os,k.tape.trans h.tape,k.output.trans h.output,Nat.le_trans h.size k.size,fun i hi hx=>(k.block i (Nat.lt_of_lt_of_le hi h.size) hx).trans (h.block i hi hx)⟩
theorem Touch.mono{X Y:Nat→Prop}{w w':World}(h:Touch X w w')(hXY:∀k,k<w.heap.size→X k→Y k):Touch Y w w':=
 ⟨h.os,h.tape,h.output,h.size,fun k hk hy=>h.block k hk fun hx=>hy (hXY k hk hx)⟩
theorem Touch.of_below{X:Nat→Prop}{w w':World}(h:Below w.heap.size w w'):Touch X w w':=⟨h.os,h.tape,h.output,h.size,fun k hk _=>h.block k hk⟩
theorem Touch.below{X:Nat→Prop}{w w':World}{B:Nat}(h:Touch X w w')(hX:∀k,X k→B≤k)(hB:B≤w.heap.size):Below B w w':=
 ⟨h.os,h.tape,h.output,h.size,fun k hk=>h.block k (by omega) fun hx=>by have:=hX k hx;omega⟩
theorem Touch.alloc{X:Nat→Prop}{a w:World}(h:Touch X a w)(o:Obj):Touch X a (w.alloc o):=
 ⟨h.os,h.tape,h.output,by have:=h.size;simp;omega,fun k hk hx=>(Below.heap_alloc _ _ _ (Nat.lt_of_lt_of_le hk h.size)).trans (h.block k hk hx)⟩
theorem Touch.setCell{X:Nat→Prop}{a w:World}(h:Touch X a w){p:Addr}(hp:p.block<a.heap.size→X p.block)(u:Value):Touch X a (w.setCell p u):=
 ⟨h.os,h.tape,h.output,by have:=h.size;simpa[World.setCell] using this,fun k hk hx=>(Below.heap_setCell _ _ _ _ (fun e=>by subst e;exact hx (hp hk))).trans (h.block k hk hx)⟩
theorem Touch.drewN{X:Nat→Prop}{a w:World}(h:Touch X a w)(n:Nat):Touch X a (w.drewN n):=⟨h.os,h.tape,h.output,h.size,h.block⟩
theorem Touch.drew{X:Nat→Prop}{a w:World}(h:Touch X a w):Touch X a w.drew:=⟨h.os,h.tape,h.output,h.size,h.block⟩
theorem Touch.cell{X:Nat→Prop}{w w':World}(h:Touch X w w'){p:Addr}(hp:p.block<w.heap.size)(hx:¬X p.block):w'.cell? p=w.cell? p:=World.cell?_of_block (w:=w) (h.block p.block hp hx)
theorem Touch.kC{X:Nat→Prop}{w w':World}(h:Touch X w.drew w'):Touch X w w':=⟨h.os,h.tape,h.output,h.size,h.block⟩
def Blk(w:World)(b:Nat)(cs:Array Value)(t:TypeId):Prop:=w.heap[b]? =some (.cells cs t (0,0))
theorem Blk.lt{w:World}{b:Nat}{cs:Array Value}{t:TypeId}(h:Blk w b cs t):b<w.heap.size:=lt_of_block h
theorem Blk.cell{w:World}{b:Nat}{cs:Array Value}{t:TypeId}(h:Blk w b cs t)(i:Nat){v:Value}(hv:cs[i]? =some v):w.cell? ⟨b,i,none⟩=some v:=by
 unfold Blk at h
 simp[World.cell?,h,hv]
theorem Blk.free{w:World}{b:Nat}{cs:Array Value}{t:TypeId}(h:Blk w b cs t)(i:Nat):w.frozen? ⟨b,i,none⟩=false:=by
 unfold Blk at h
 simp[World.frozen?,h]
theorem Blk.new(w:World)(cs:Array Value)(t:TypeId):Blk (w.alloc (.cells cs t)) w.heap.size cs t:=by
 show(w.heap.push _)[w.heap.size]? =_
 simp
theorem Blk.alloc{w:World}{b:Nat}{cs:Array Value}{t:TypeId}(h:Blk w b cs t)(o:Obj):Blk (w.alloc o) b cs t:=(Below.heap_alloc _ _ _ h.lt).trans h
theorem Blk.drewN{w:World}{b:Nat}{cs:Array Value}{t:TypeId}(h:Blk w b cs t)(n:Nat):Blk (w.drewN n) b cs t:=h
theorem Blk.drew{w:World}{b:Nat}{cs:Array Value}{t:TypeId}(h:Blk w b cs t):Blk w.drew b cs t:=h
theorem Blk.other{w:World}{b:Nat}{cs:Array Value}{t:TypeId}(h:Blk w b cs t){p:Addr}(hp:p.block≠b)(v:Value):Blk (w.setCell p v) b cs t:=(Below.heap_setCell _ _ _ _ (Ne.symm hp)).trans h
theorem Blk.set{w:World}{b:Nat}{cs:Array Value}{t:TypeId}(h:Blk w b cs t)(i:Nat)(v:Value):Blk (w.setCell ⟨b,i,none⟩ v) b (cs.setIfInBounds i v) t:=by
 have hlt:=h.lt
 unfold Blk at h
 have h':w.heap[b]=.cells cs t (0,0):=by simpa[Array.getElem?_eq_getElem hlt] using h
 show(w.heap.modify b _)[b]? =_
 rw[Array.getElem?_eq_getElem (by simpa using hlt),Array.getElem_modify_self,h']
 rfl
theorem Blk.put{w:World}{b:Nat}{cs cs':Array Value}{t:TypeId}(h:Blk w b cs t)(i:Nat)(v:Value)(e:cs.setIfInBounds i v=cs'):Blk (w.setCell ⟨b,i,none⟩ v) b cs' t:=e▸h.set i v
theorem Blk.touch{X:Nat→Prop}{w w':World}{b:Nat}{cs:Array Value}{t:TypeId}(h:Blk w b cs t)(k:Touch X w w')(hx:¬X b):Blk w' b cs t:=(k.block b h.lt hx).trans h
theorem Blk.later{w w':World}{b:Nat}{cs:Array Value}{t:TypeId}(h:Blk w b cs t)(k:Below w.heap.size w w'):Blk w' b cs t:=(k.block b h.lt).trans h
def RowOut(X:Nat→Prop)(a:Option Addr)(zs:List Int):Prop:=0<zs.length→∀b off,a=some ⟨b,off,none⟩→¬X b
theorem Row.touch{X:Nat→Prop}{w w':World}{k:IntKind}{a:Option Addr}{zs:List Int}(h:Row w k a zs)(t:Touch X w w')(hx:RowOut X a zs):Row w' k a zs:=by
 intro i hi
 obtain⟨b,off,ha,hlt,hc⟩:=h i hi
 exact⟨b,off,ha,Nat.lt_of_lt_of_le hlt t.size,(t.cell (p:=⟨b,off+i,none⟩) hlt (hx (by omega) b off ha)).trans hc⟩
def arrV(f:Nat→Value)(n:Nat):Array Value:=((List.range n).map f).toArray
theorem Lb{f:Nat→Value}{n i:Nat}(h:i<n):(arrV f n)[i]? =some (f i):=by simp[arrV,h]
theorem made_arr(z:Value)(hz:z.cells= #[z])(n:Nat):madeCells z.cells (n*1)=arrV (fun _=>z) n:=by
 unfold madeCells arrV
 have e:∀x:Nat,z.cells[x%z.cells.size]! =z:=by
  intro x
  rw[hz]
  simp[Nat.mod_one]
 simp only[e]
 apply Array.ext<;>simp
def OwnR(w:World)(k:IntKind)(a:Option Addr)(zs:List Int):Prop:=
 zs.length=0∨∃b cs t,a=some ⟨b,0,none⟩∧Blk w b cs t∧∀i,i<zs.length→cs[i]? =some (.int k (nth zs i))
theorem OwnR.row{w:World}{k:IntKind}{a:Option Addr}{zs:List Int}(h:OwnR w k a zs):Row w k a zs:=by
 intro i hi
 rcases h with h|⟨b,cs,t,rfl,hb,hc⟩
 ·omega
 ·exact⟨b,0,rfl,hb.lt,by rw[Nat.zero_add];exact hb.cell i (hc i hi)⟩
theorem OwnR.later{w w':World}{k:IntKind}{a:Option Addr}{zs:List Int}(h:OwnR w k a zs)(hb:Below w.heap.size w w'):OwnR w' k a zs:=by
 rcases h with h|⟨b,cs,t,rfl,hk,hc⟩
 ·exact .inl h
 ·exact .inr ⟨b,cs,t,rfl,hk.later hb,hc⟩
theorem OwnR.touch{X:Nat→Prop}{w w':World}{k:IntKind}{a:Option Addr}{zs:List Int}(h:OwnR w k a zs)(t:Touch X w w')(hx:RowOut X a zs):OwnR w' k a zs:=by
 rcases h with h|⟨b,cs,t',rfl,hk,hc⟩
 ·exact .inl h
 ·by_cases h0:zs.length=0
  ·exact .inl h0
  ·exact .inr ⟨b,cs,t',rfl,hk.touch t (hx (by omega) b 0 rfl),hc⟩
theorem OwnR.set{w:World}{k:IntKind}{zs:List Int}{b i:Nat}(h:OwnR w k (some ⟨b,0,none⟩) zs)(hi:i<zs.length)(v:Int):OwnR (w.setCell ⟨b,i,none⟩ (.int k v)) k (some ⟨b,0,none⟩) (zs.set i v):=by
 rcases h with h|⟨b',cs,t,e,hk,hc⟩
 ·omega
 ·cases e
  refine .inr ⟨b,_,t,rfl,hk.set i (.int k v),fun j hj=> ?_⟩
  have hj':j<zs.length:=by simpa using hj
  have hcj:=hc j hj'
  have hjs:j<cs.size:=(Array.getElem?_eq_some_iff.1 hcj).1
  by_cases e:j=i
  ·subst e
   rw[Array.getElem?_setIfInBounds_self_of_lt hjs]
   unfold nth;simp[List.getD,hi]
  ·rw[Array.getElem?_setIfInBounds_ne (fun h=>e h.symm),hcj]
   unfold nth
   rw[List.getD_eq_getElem?_getD,List.getD_eq_getElem?_getD,List.getElem?_set_ne (fun h=>e h.symm)]
theorem OwnR.at{w:World}{k:IntKind}{a:Option Addr}{zs:List Int}(h:OwnR w k a zs){i:Nat}(hi:i<zs.length):∃b,a=some ⟨b,0,none⟩∧b<w.heap.size∧w.cell? ⟨b,i,none⟩=some (.int k (nth zs i))∧w.frozen? ⟨b,i,none⟩=false:=by
 rcases h with h|⟨b,cs,t,rfl,hk,hc⟩
 ·omega
 ·exact⟨b,rfl,hk.lt,hk.cell i (hc i hi),hk.free i⟩
theorem OwnR.of_owns{w:World}{B:Nat}{e:TypeId}{k:IntKind}{v:Value}{zs:List Int}(h:w.ownsRow B e 1 v zs.length (zs.map (Value.int k))):∃a cap,v=.slice a zs.length cap∧OwnR w k a zs:=by
 rcases h.2 with⟨h1,h2⟩|⟨g,cap,cur,h1,_,hg,_,_,_,ht⟩
 ·exact⟨none,0,by rw[h1,h2],.inl h2⟩
 ·refine⟨some ⟨g,0,none⟩,cap,h1,.inr ⟨g,cur,e,rfl,hg,fun i hi=> ?_⟩⟩
  have:(cur.toList.take (zs.length*1))[i]? =(zs.map (Value.int k))[i]? :=by rw[ht]
  rw[List.getElem?_take,if_pos (by omega),List.getElem?_map] at this
  rw[←Array.getElem?_toList,this]
  unfold nth
  simp[List.getD,hi]
set_option maxHeartbeats 600000 in
theorem Nl(zs:List Int)(a b:Option Addr)(n ca cb:Nat)(w:World)(hn:zs.length=n)(ha:Row w .u32 a zs)(hb:Row w .u32 b zs)(hm:n≤maxLen):
  Calls Tryz.prog 87 #[.slice a n ca,.slice b n cb] w fun e w'=>e=.returned (.bool true)∧bR w w':=by
 unfold maxLen at hm
 have HN:=hid hn
 have HA:=hid ha
 have HB:=hid hb
 clear hn ha hb
 go_enter Tryz.func87,Tryz.ntmps87
 go_wp2
 go_loopw [5] (fun i wr=>∃k:Nat,k≤n∧i=.int .i64 k∧bR w wr) (fun i _=>n-(intOf i).toNat)
 case atStart=>exact⟨0,Nat.zero_le _,rfl,bR.refl _⟩
 case round=>
  obtain⟨k,hk,rfl,hd⟩:=hrel
  by_cases hlt:k<n
  ·obtain⟨b1,o1,rfl,hb1,hc1⟩:=(HA.out.bE hd) k (by rw[HN.out];exact hlt)
   obtain⟨b2,o2,rfl,hb2,hc2⟩:=(HB.out.bE hd) k (by rw[HN.out];exact hlt)
   have i0:(0:Int)≤(k:Int):=by omega
   have i1:(k:Int)<(n:Int):=by omega
   have HD:=hid hd
   clear hd
   go_wp2_with fail
   go_quiet (fail)
   have hd:bR w (wr.drewN nq):=HD.out.step _
   clear HD
   generalize wr.drewN nq=w2 at*
   go_wp2
   go_roundw
   case rel=>exact⟨k+1,by omega,by go_num,hd⟩
   case measure=>simp[intOf];omega
  ·go_wp2
   go_ret
   exact⟨rfl,hd⟩
def jT(n lo hi:Int):Int:=if hi<n then hi else if n<lo then lo else n
def cnt(n:Int):Int:=jT n 0 1125899906842624
def KI(n:Int):Int:=if cnt n=0 then 1 else cnt n
def iF(a b:Int):Int:=if 0<b∧1125899906842624/b<a then 1125899906842624 else a*b
def Lj(a b:Int):Int:=cnt a/KI b
def Sy(a b:Int):Int:=(cnt a+KI b-1)/KI b
theorem dV(n:Int):0≤cnt n∧cnt n≤1125899906842624:=by
 unfold cnt jT;split
 ·omega
 ·split<;>omega
theorem gL{n:Int}(h0:0≤n)(h1:n≤1125899906842624):cnt n=n:=by
 unfold cnt jT;rw[if_neg (by omega),if_neg (by omega)]
theorem QF{n:Int}(h1:n≤0):cnt n=0:=by
 unfold cnt jT;rw[if_neg (by omega)];split
 ·rfl
 ·omega
theorem ow(n:Int):cnt n=max 0 (min n 1125899906842624):=by
 unfold cnt jT;split
 ·omega
 ·split<;>omega
theorem Le(n:Int):1≤KI n∧KI n≤1125899906842624:=by
 have:=dV n
 unfold KI;split<;>omega
theorem Ov(n:Int):KI n=max (cnt n) 1:=by
 have:=dV n
 unfold KI;split<;>omega
theorem lJ{a b:Int}(ha:0≤a)(hb:0≤b)(ha2:a≤1125899906842624)(hb2:b≤1125899906842624):iF a b=min 1125899906842624 (a*b):=by
 unfold iF
 by_cases h:0<b∧1125899906842624/b<a
 ·rw[if_pos h]
  have h1:=Int.emod_add_mul_ediv 1125899906842624 b
  have h2:=Int.emod_lt_of_pos 1125899906842624 h.1
  have h3:b*(1125899906842624/b+1)≤b*a:=Int.mul_le_mul_of_nonneg_left (by omega) hb
  rw[Int.mul_add,Int.mul_comm b a] at h3
  omega
 ·rw[if_neg h]
  by_cases hb0:b=0
  ·subst hb0;rw[Int.mul_zero];decide
  ·have hp:0<b:=by omega
   have h4:a≤1125899906842624/b:=by
    by_cases h5:1125899906842624/b<a
    ·exact absurd ⟨hp,h5⟩ h
    ·omega
   have h5:b*a≤b*(1125899906842624/b):=Int.mul_le_mul_of_nonneg_left h4 hb
   have h6:=Int.mul_ediv_self_le (x:=1125899906842624) (k:=b) (by omega)
   rw[Int.mul_comm b a] at h5
   omega
theorem Nz{a b:Int}(ha:0≤a)(hb:0≤b)(ha2:a≤1125899906842624)(hb2:b≤1125899906842624):0≤iF a b∧iF a b≤1125899906842624:=by
 rw[lJ ha hb ha2 hb2]
 have:=Int.mul_nonneg ha hb
 omega
def gZ(l:List Int):Int:=l.foldl (fun s n=>cnt (s+cnt n)) 0
def kF(l:List Int):Int:=l.foldl (fun s n=>iF s (cnt n)) 1
def pq(l:List Int)(k:Nat):Int:=gZ (l.take k)
def pJ(l:List Int)(k:Nat):Int:=kF (l.take k)
theorem ry{l:List Int}{k:Nat}(h:k<l.length):l.take (k+1)=l.take k++[nth l k]:=by
 rw[List.take_succ_eq_append_getElem h];unfold nth;simp[List.getD,h]
theorem uX{l:List Int}{k:Nat}(h:k<l.length):pq l (k+1)=cnt (pq l k+cnt (nth l k)):=by
 unfold pq gZ;rw[ry h,List.foldl_append];rfl
theorem yA(l:List Int):pq l l.length=gZ l:=by unfold pq;rw[List.take_length]
theorem vS{l:List Int}{k:Nat}(h:k<l.length):pJ l (k+1)=iF (pJ l k) (cnt (nth l k)):=by
 unfold pJ kF;rw[ry h,List.foldl_append];rfl
theorem yZ(l:List Int):pJ l l.length=kF l:=by unfold pJ;rw[List.take_length]
def rq:List Int→Int
 |[]=>0
 |n::l=>cnt n+rq l
def lF:List Int→Int
 |[]=>1
 |n::l=>cnt n*lF l
theorem IG(l:List Int):0≤rq l:=by
 induction l with
 |nil=>exact Int.le_refl _
 |cons n l ih=>have:=dV n;show 0≤cnt n+rq l;omega
theorem Dp(l:List Int):0≤lF l:=by
 induction l with
 |nil=>decide
 |cons n l ih=>exact Int.mul_nonneg (dV n).1 ih
theorem Eb(l m:List Int):rq (l++m)=rq l+rq m:=by
 induction l with
 |nil=>show rq m=0+rq m;omega
 |cons n l ih=>show cnt n+rq (l++m)=cnt n+rq l+rq m;rw[ih];omega
theorem Aq(l m:List Int):lF (l++m)=lF l*lF m:=by
 induction l with
 |nil=>show lF m=1*lF m;omega
 |cons n l ih=>show cnt n*lF (l++m)=cnt n*lF l*lF m;rw[ih,Int.mul_assoc]
theorem Ns(n:Int):rq [n]=cnt n:=by show cnt n+0=cnt n;omega
theorem JS(n:Int):lF [n]=cnt n:=by show cnt n*1=cnt n;omega
theorem KX(l:List Int):gZ l=min 1125899906842624 (rq l):=by
 have h:∀k,k≤l.length→pq l k=min 1125899906842624 (rq (l.take k)):=by
  intro k
  induction k with
  |zero=>intro _;rfl
  |succ k ih=>
   intro hk
   rw[uX hk,ih (by omega),ry hk,Eb,Ns,ow]
   have h1:=IG (l.take k)
   have h2:=dV (nth l k)
   omega
 have:=h l.length (Nat.le_refl _)
 rwa[yA,List.take_length] at this
theorem Hf(l:List Int):0≤gZ l∧gZ l≤1125899906842624:=by
 rw[KX];have:=IG l;omega
theorem KY(l:List Int)(k:Nat):0≤pq l k∧pq l k≤1125899906842624:=Hf _
theorem min_mul{p c:Int}(hp:0≤p)(hc:0≤c):min 1125899906842624 (min 1125899906842624 p*c)=min 1125899906842624 (p*c):=by
 by_cases h:p≤1125899906842624
 ·rw[show min 1125899906842624 p=p by omega]
 ·rw[show min 1125899906842624 p=1125899906842624 by omega]
  by_cases h0:c=0
  ·subst h0;rw[Int.mul_zero,Int.mul_zero]
  ·have h1:1125899906842624*1≤1125899906842624*c:=Int.mul_le_mul_of_nonneg_left (by omega) (by decide)
   have h2:1125899906842624*c≤p*c:=Int.mul_le_mul_of_nonneg_right (by omega) hc
   omega
theorem FX(l:List Int):∀k,k≤l.length→pJ l k=min 1125899906842624 (lF (l.take k)):=by
 intro k
 induction k with
 |zero=>intro _;rfl
 |succ k ih=>
  intro hk
  have h1:=Dp (l.take k)
  have h2:=dV (nth l k)
  rw[vS hk,ih (by omega),ry hk,Aq,JS,lJ (by omega) h2.1 (by omega) h2.2,min_mul h1 h2.1]
theorem JI(l:List Int):kF l=min 1125899906842624 (lF l):=by
 have:=FX l l.length (Nat.le_refl _)
 rwa[yZ,List.take_length] at this
theorem Pi(l:List Int):0≤kF l∧kF l≤1125899906842624:=by
 rw[JI];have:=Dp l;omega
theorem MC(l:List Int)(k:Nat):0≤pJ l k∧pJ l k≤1125899906842624:=Pi _
theorem IY(l:List Int)(n:Int):gZ (l++[n])=cnt (gZ l+cnt n):=by
 unfold gZ;rw[List.foldl_append];rfl
theorem BF(a b:Int):gZ [a,b]=cnt (cnt a+cnt b):=by
 show cnt (cnt (0+cnt a)+cnt b)=_
 rw[Int.zero_add,gL (dV a).1 (dV a).2]
theorem CY(a b:Int):kF [a,b]=iF (cnt a) (cnt b):=by
 show iF (iF 1 (cnt a)) (cnt b)=_
 rw[lJ (by decide) (dV a).1 (by decide) (dV a).2,Int.one_mul]
 have:=dV a
 rw[show min 1125899906842624 (cnt a)=cnt a by omega]
structure May (N W R K:Int):Prop where
 n0:1≤N
 n1:N≤1048576
 w0:16≤W
 w1:W≤256
 r0:1≤R
 r1:R≤4096
 k0:1≤K
 k1:K≤65536
 nw:N*W≤4194304
theorem Lf{n lo hi:Int}(h0:lo≤n)(h1:n≤hi):jT n lo hi=n:=by
 unfold jT;rw[if_neg (by omega),if_neg (by omega)]
theorem lV{a b:Int}(ha:0≤a)(hb:0≤b)(h:a+b≤1125899906842624):gZ [a,b]=a+b:=by
 rw[BF,gL ha (by omega),gL hb (by omega),gL (by omega) h]
theorem Ot{a b c:Int}(ha:0≤a)(hb:0≤b)(hc:0≤c)(h:a+b+c≤1125899906842624):gZ [a,b,c]=a+b+c:=by
 have:=IY [a,b] c
 rw[show[a,b]++[c]=[a,b,c] from rfl,lV ha hb (by omega),gL hc (by omega),gL (by omega) h] at this
 exact this
theorem kL{a b:Int}(ha:0≤a)(hb:0≤b)(h1:a≤1125899906842624)(h2:b≤1125899906842624)(h:a*b≤1125899906842624):kF [a,b]=a*b:=by
 rw[CY,gL ha h1,gL hb h2,lJ ha hb h1 h2]
 omega
theorem NI{a b:Int}(ha:0≤a)(h1:a≤1125899906842624)(hb:1≤b)(h2:b≤1125899906842624):Sy a b=(a+b-1)/b:=by
 have e:KI b=b:=by unfold KI;rw[gL (by omega) h2,if_neg (by omega)]
 unfold Sy
 rw[e,gL ha h1]
def BA(N W R:Int):Int:=24+R+N*W
def ic(N W:Int):Int:=N*(W+1)
def gM(N W:Int):Int:=3*(N*(W+1))+4
def ay(W:Int):Int:=(W-8)*(W-1)
def EW(a b:Int):Int:=(a+b-1)/b
def QW(N W K:Int):Int:=2*EW (gM N W) K+2*(W-7)
def AA(N W K:Int):Int:=EW (2*gM N W+ic N W) K+2
theorem za{a b A B:Int}(ha:0≤a)(hb:0≤b)(h1:a≤A)(h2:b≤B):0≤a*b∧a*b≤A*B:=
 ⟨Int.mul_nonneg ha hb,Int.mul_le_mul h1 h2 hb (by omega)⟩
theorem Iu{N W R K:Int}(h:May N W R K):16≤N*W∧N*W≤4194304:=by
 have:=Int.mul_le_mul h.n0 h.w0 (by omega) (by have:=h.n0;omega)
 exact⟨by omega,h.nw⟩
theorem Lp(N W:Int):ic N W=N*W+N:=by unfold ic;rw[Int.mul_add];omega
theorem Ce{N W R K:Int}(h:May N W R K):17≤ic N W∧ic N W≤5242880:=by
 have:=Iu h
 have:=h.n0;have:=h.n1
 rw[Lp];omega
theorem Lt(N W:Int):gM N W=3*ic N W+4:=rfl
theorem Ls{N W R K:Int}(h:May N W R K):55≤gM N W∧gM N W≤15728644:=by
 have:=Ce h
 rw[Lt];omega
theorem dh{W:Int}(h0:16≤W)(h1:W≤256):120≤ay W∧ay W≤63240:=by
 have a:=Int.mul_le_mul (show(8:Int)≤W-8 by omega) (show(15:Int)≤W-1 by omega) (by omega) (by omega)
 have b:=Int.mul_le_mul (show W-8≤248 by omega) (show W-1≤255 by omega) (by omega) (by omega)
 unfold ay;omega
theorem GI{a b:Int}(ha:0≤a)(hb:1≤b):0≤EW a b∧EW a b≤a∧a≤b*EW a b∧b*EW a b<a+b:=by
 unfold EW
 have h1:=Int.emod_add_mul_ediv (a+b-1) b
 have h2:=Int.emod_nonneg (a+b-1) (show b≠0 by omega)
 have h3:=Int.emod_lt_of_pos (a+b-1) (show 0<b by omega)
 have h4:0≤(a+b-1)/b:=Int.ediv_nonneg (by omega) (by omega)
 refine⟨h4,?_,by omega,by omega⟩
 by_cases h5:a=0
 ·subst h5
  have:(0+b-1)/b=0:=Int.ediv_eq_zero_of_lt (by omega) (by omega)
  omega
 ·have h6:(a+b-1)/b<a+1:=by
   apply Int.ediv_lt_of_lt_mul (by omega)
   have h7:a*1≤a*b:=Int.mul_le_mul_of_nonneg_left hb ha
   have:(a+1)*b=a*b+b:=by rw[Int.add_mul];omega
   omega
  omega
def pw(n:Int):Int:=2^n.toNat
theorem nS(n:Int):0<pw n:=Int.pow_pos (by decide)
def cZ(at' n:Int):Bool:=decide (0≤at'∧1≤n∧n≤32∧at'≤32-n)
theorem iV{a n:Int}(h:cZ a n=true):0≤a∧1≤n∧n≤32∧a≤32-n:=of_decide_eq_true h
theorem JR{a n:Int}(h:cZ a n=false):¬(0≤a∧1≤n∧n≤32∧a≤32-n):=of_decide_eq_false h
def gN(w a n:Int):Int:=if cZ a n=true then w/pw a%pw n else 0
def rO(v n:Int):Bool:=decide (v<pw n)
def Dv(w a n v:Int):Int:=w-gN w a n*pw a+v*pw a
theorem Qw{m n:Int}(h:m≤n):pw m≤pw n:=by
 unfold pw
 have h1:m.toNat≤n.toNat:=by omega
 have:=Nat.pow_le_pow_right (n:=2) (by decide) h1
 exact_mod_cast this
theorem RA{m n:Int}(hm:0≤m)(hn:0≤n):pw (m+n)=pw m*pw n:=by
 unfold pw
 rw[Int.toNat_add hm hn,Int.pow_add]
theorem Nc:pw 32=4294967296:=by decide
theorem Ty:pw 0=1:=by decide
theorem RB{n:Int}(h:n≤0):pw n=1:=by
 unfold pw
 have:n.toNat=0:=by omega
 rw[this];rfl
theorem IA{n:Int}(h:n≤32):pw n≤4294967296:=by rw[←Nc];exact Qw h
theorem PL{n:Int}(h:32≤n):4294967296≤pw n:=by rw[←Nc];exact Qw h
theorem Pb{n:Int}(h1:1≤n)(h2:n≤32):(4294967295:Int)/2^(32-n).toNat=pw n-1:=by
 have e:pw n*pw (32-n)=4294967296:=by
  rw[←RA (by omega) (by omega),show n+(32-n)=32 by omega,Nc]
 have hp:=nS (32-n)
 have hq:=nS n
 show(4294967295:Int)/pw (32-n)=pw n-1
 have e2:(4294967295:Int)=(pw (32-n)-1)+(pw n-1)*pw (32-n):=by
  rw[Int.sub_mul,e];omega
 rw[e2,Int.add_mul_ediv_right _ _ (by omega),Int.ediv_eq_zero_of_lt (by omega) (by omega)]
 omega
theorem OH{w a n:Int}(h0:0≤w):0≤gN w a n:=by
 unfold gN;split
 ·exact Int.emod_nonneg _ (by have:=nS n;omega)
 ·exact Int.le_refl _
theorem OI{w a n:Int}:gN w a n<pw n:=by
 unfold gN;split
 ·exact Int.emod_lt_of_pos _ (nS n)
 ·exact nS n
theorem OG{w a n:Int}(h0:0≤w)(h1:w≤4294967295):gN w a n≤4294967295:=by
 by_cases hp:cZ a n=true
 ·have h:=iV hp
  have:=OI (w:=w) (a:=a) (n:=n)
  have:=IA h.2.2.1
  omega
 ·have:gN w a n=0:=by unfold gN;rw[if_neg hp]
  omega
theorem OJ{w a n:Int}(h0:0≤w)(h1:w≤4294967295)(hp:cZ a n=true):
  bits .and .u32 (w/2^a.toNat) (pw n-1)=gN w a n:=by
 obtain⟨ha,hn1,hn2,hd⟩:=iV hp
 have hle:w/pw a≤w:=Int.ediv_le_self _ h0
 have hge:0≤w/pw a:=Int.ediv_nonneg h0 (Int.le_of_lt (nS a))
 have hm:=IA hn2
 have hp0:=nS n
 show bits .and .u32 (w/pw a) (pw n-1)=_
 rw[u32_and _ _ hge (by omega) (by omega) (by omega)]
 unfold gN
 rw[if_pos hp]
 obtain⟨X,hX⟩:=Int.eq_ofNat_of_zero_le hge
 rw[hX]
 have e:(pw n-1).toNat=2^n.toNat-1:=by
  unfold pw
  have:((2:Int)^n.toNat)=((2^n.toNat:Nat):Int):=by simp
  rw[this];omega
 rw[e,Int.toNat_natCast,Nat.and_two_pow_sub_one_eq_mod]
 unfold pw
 simp
theorem Gs(w a n:Nat):w=(w/2^(a+n))*2^(a+n)+(w/2^a%2^n)*2^a+w%2^a:=by
 have h1:=Nat.div_add_mod w (2^a)
 have h2:=Nat.div_add_mod (w/2^a) (2^n)
 rw[Nat.div_div_eq_div_mul,←Nat.pow_add] at h2
 have h3:2^a*(2^n*(w/2^(a+n)))=w/2^(a+n)*2^(a+n):=by
  rw[Nat.pow_add,←Nat.mul_assoc,Nat.mul_comm]
 have h4:2^a*(w/2^a)=2^a*(2^n*(w/2^(a+n)))+2^a*(w/2^a%2^n):=by
  rw[←Nat.mul_add,h2]
 have h5:2^a*(w/2^a%2^n)=w/2^a%2^n*2^a:=Nat.mul_comm _ _
 omega
theorem uM(w a n v:Nat)(hv:v<2^n)(hw:w<2^32)(hn:a+n≤32):
  (w &&& (4294967295-(2^n-1)*2^a)) ||| v*2^a=(w/2^(a+n))*2^(a+n)+v*2^a+w%2^a:=by
 have hmul:(2^n-1)*2^a<2^32:=by
  have h1:(2^n-1)*2^a<2^n*2^a:=Nat.mul_lt_mul_of_pos_right (by have:=Nat.two_pow_pos n;omega) (Nat.two_pow_pos a)
  rw[←Nat.pow_add] at h1
  exact Nat.lt_of_lt_of_le h1 (Nat.pow_le_pow_right (by decide) (by omega))
 have hlow:v*2^a+w%2^a<2^(a+n):=by
  have h1:(v+1)*2^a≤2^n*2^a:=Nat.mul_le_mul_right _ hv
  rw[Nat.add_mul,Nat.one_mul] at h1
  have h2:=Nat.mod_lt w (Nat.two_pow_pos a)
  rw[Nat.pow_add,Nat.mul_comm (2^a)]
  omega
 apply Nat.eq_of_testBit_eq
 intro j
 have e1:(4294967295-(2^n-1)*2^a)=2^32-((2^n-1)*2^a+1):=by omega
 rw[Nat.testBit_or,Nat.testBit_and,e1,Nat.testBit_two_pow_sub_succ hmul]
 rw[Nat.add_assoc,Nat.mul_comm (w/2^(a+n)),Nat.testBit_two_pow_mul_add _ hlow,Nat.mul_comm v,Nat.testBit_two_pow_mul_add _ (Nat.mod_lt w (Nat.two_pow_pos a))]
 rw[Nat.mul_comm (2^n-1),Nat.testBit_two_pow_mul,Nat.testBit_two_pow_mul,Nat.testBit_two_pow_sub_one,Nat.testBit_mod_two_pow,Nat.testBit_div_two_pow]
 by_cases hj:j<a
 ·have h1:¬a≤j:=by omega
  have h2:j<a+n:=by omega
  have h3:j<32:=by omega
  simp[hj,h1,h2,h3]
 ·by_cases hj2:j<a+n
  ·have h1:a≤j:=by omega
   have h2:j-a<n:=by omega
   simp[hj,hj2,h1,h2]
  ·have h1:a≤j:=by omega
   have h2:¬j-a<n:=by omega
   have h3:v.testBit (j-a)=false:=by
    apply Nat.testBit_lt_two_pow
    exact Nat.lt_of_lt_of_le hv (Nat.pow_le_pow_right (by decide) (by omega))
   have h4:a+n+(j-(a+n))=j:=by omega
   have h6:j-(a+n)+(a+n)=j:=by omega
   by_cases h5:j<32
   ·simp[hj,hj2,h1,h2,h3,h4,h5,h6]
   ·have hwj:w.testBit j=false:=by
     apply Nat.testBit_lt_two_pow
     exact Nat.lt_of_lt_of_le hw (Nat.pow_le_pow_right (by decide) (by omega))
    simp[hj,hj2,h1,h2,h3,h4,h5,h6,hwj]
theorem Ru{w a n v:Int}(h0:0≤w)(h1:w≤4294967295)(hv0:0≤v)(hp:cZ a n=true)(hf:rO v n=true):
  bits .or .u32 (bits .andNot .u32 w (IntKind.u32.wrap ((pw n-1)*2^a.toNat))) (IntKind.u32.wrap (v*2^a.toNat))=Dv w a n v:=by
 obtain⟨ha,hn1,hn2,hd⟩:=iV hp
 have hv:v<pw n:=of_decide_eq_true hf
 obtain⟨A,rfl⟩:=Int.eq_ofNat_of_zero_le ha
 obtain⟨N,rfl⟩:=Int.eq_ofNat_of_zero_le (by omega:0≤n)
 obtain⟨W,rfl⟩:=Int.eq_ofNat_of_zero_le h0
 obtain⟨V,rfl⟩:=Int.eq_ofNat_of_zero_le hv0
 have eN:pw (N:Int)=((2^N:Nat):Int):=by unfold pw;simp
 have eA:pw (A:Int)=((2^A:Nat):Int):=by unfold pw;simp
 have eA2:(2:Int)^(A:Int).toNat=((2^A:Nat):Int):=by simp
 have hV:V<2^N:=by rw[eN] at hv;exact_mod_cast hv
 have hs:A+N≤32:=by omega
 have hW:W<2^32:=by omega
 have hpos:=Nat.two_pow_pos N
 have eM:(pw (N:Int)-1)*2^(A:Int).toNat=(((2^N-1)*2^A:Nat):Int):=by
  rw[eN,eA2,Int.natCast_mul,Int.natCast_sub hpos];simp
 have eV:(V:Int)*2^(A:Int).toNat=((V*2^A:Nat):Int):=by rw[eA2,Int.natCast_mul]
 have bM:(2^N-1)*2^A<2^32:=by
  have h1:(2^N-1)*2^A<2^N*2^A:=Nat.mul_lt_mul_of_pos_right (by omega) (Nat.two_pow_pos A)
  rw[←Nat.pow_add] at h1
  exact Nat.lt_of_lt_of_le h1 (Nat.pow_le_pow_right (by decide) (by omega))
 have bV:V*2^A<2^32:=by
  have h1:V*2^A<2^N*2^A:=Nat.mul_lt_mul_of_pos_right hV (Nat.two_pow_pos A)
  rw[←Nat.pow_add] at h1
  exact Nat.lt_of_lt_of_le h1 (Nat.pow_le_pow_right (by decide) (by omega))
 rw[eM,eV,IntKind.wrap_u32,IntKind.wrap_u32]
 rw[show((((2^N-1)*2^A:Nat):Int))%4294967296=(((2^N-1)*2^A:Nat):Int) from by omega]
 rw[show((V*2^A:Nat):Int)%4294967296=((V*2^A:Nat):Int) from by omega]
 rw[u32_andNot _ _ (by omega) (by omega) (by omega) (by omega)]
 have hle:W &&& (4294967295-(2^N-1)*2^A)≤W:=Nat.and_le_left
 rw[Int.toNat_natCast,Int.toNat_natCast,u32_or _ _ (by omega) (by omega) (by omega) (by omega),Int.toNat_natCast,Int.toNat_natCast,uM W A N V hV hW hs]
 unfold Dv gN
 rw[if_pos hp,eN,eA]
 have hsw:=Gs W A N
 have e1:((W:Int)/((2^A:Nat):Int)%((2^N:Nat):Int))=((W/2^A%2^N:Nat):Int):=by simp
 rw[e1,←Int.natCast_mul,←Int.natCast_mul]
 omega
theorem Lv{v n:Int}(h0:0≤v)(h1:v≤4294967295)(hn:0≤n):(v/2^min n.toNat 32==0)=rO v n:=by
 unfold rO
 rw[Bool.eq_iff_iff,beq_iff_eq,decide_eq_true_iff]
 by_cases h:n≤32
 ·have e:min n.toNat 32=n.toNat:=by omega
  rw[e]
  show v/pw n=0↔v<pw n
  constructor
  ·intro hz
   have h2:=Int.lt_ediv_add_one_mul_self v (nS n)
   rw[hz] at h2
   omega
  ·intro hlt;exact Int.ediv_eq_zero_of_lt h0 hlt
 ·have e:min n.toNat 32=32:=by omega
  rw[e]
  have hz:v/2^32=0:=Int.ediv_eq_zero_of_lt h0 (by omega)
  have:=PL (n:=n) (by omega)
  constructor
  ·intro _;omega
  ·intro _;exact hz
theorem Lu{v n:Int}(h0:0≤v)(hn:n≤0):(v==0)=rO v n:=by
 unfold rO
 rw[RB hn,Bool.eq_iff_iff,beq_iff_eq,decide_eq_true_iff]
 omega
set_option maxHeartbeats 400000 in
theorem nM(n:Int)(w:World)(h1:1≤n)(h2:n≤32):
  Calls Tryz.prog 227 #[.int .i64 n] w fun e w'=>e=.returned (.bool true)∧w=w':=by
 go_enter Tryz.func227,Tryz.ntmps227
 go_wp2
 go_ret
 exact⟨rfl,rfl⟩
set_option maxHeartbeats 400000 in
theorem Fz(n:Int)(w:World)(h:¬(1≤n∧n≤32)):
  Calls Tryz.prog 227 #[.int .i64 n] w fun e w'=>e=.returned (.bool false)∧w=w':=by
 by_cases h1:1≤n
 ·have h2:¬n≤32:=fun h2=>h ⟨h1,h2⟩
  clear h
  go_enter Tryz.func227,Tryz.ntmps227
  go_wp2
  go_ret
  exact⟨rfl,rfl⟩
 ·clear h
  go_enter Tryz.func227,Tryz.ntmps227
  go_wp2
  go_ret
  exact⟨rfl,rfl⟩
set_option maxHeartbeats 400000 in
theorem nL(a n:Int)(w:World)(hp:cZ a n=true):
  Calls Tryz.prog 212 #[.int .i64 a,.int .i64 n] w fun e w'=>e=.returned (.bool true)∧w=w':=by
 obtain⟨h0,h1,h2,h3⟩:=iV hp
 clear hp
 go_enter Tryz.func212,Tryz.ntmps212
 go_wp2_with (go_at_call 227;refine(nM _ _ (by omega) (by omega)).mono ?_;rintro e w' ⟨rfl,rfl⟩)
 go_ret
 exact⟨rfl,rfl⟩
set_option maxHeartbeats 400000 in
theorem vG(a n:Int)(w:World)(hp:cZ a n=false):
  Calls Tryz.prog 212 #[.int .i64 a,.int .i64 n] w fun e w'=>e=.returned (.bool false)∧w=w':=by
 have h:=JR hp
 clear hp
 by_cases hw:1≤n∧n≤32
 ·obtain⟨h1,h2⟩:=hw
  by_cases h0:0≤a
  ·have h3:¬a≤32-n:=fun h3=>h ⟨h0,h1,h2,h3⟩
   clear h
   go_enter Tryz.func212,Tryz.ntmps212
   go_wp2_with (go_at_call 227;refine(nM _ _ (by omega) (by omega)).mono ?_;rintro e w' ⟨rfl,rfl⟩)
   go_ret
   exact⟨ax (decide_eq_false (by omega)),rfl⟩
  ·clear h
   go_enter Tryz.func212,Tryz.ntmps212
   go_wp2_with (go_at_call 227;refine(nM _ _ (by omega) (by omega)).mono ?_;rintro e w' ⟨rfl,rfl⟩)
   go_ret
   exact⟨rfl,rfl⟩
 ·clear h
  have hW:Hid (¬(1≤n∧n≤32)):=hw
  clear hw
  go_enter Tryz.func212,Tryz.ntmps212
  go_wp2_with (go_at_call 227;refine(Fz _ _ hW.out).mono ?_;rintro e w' ⟨rfl,rfl⟩)
  go_ret
  exact⟨rfl,rfl⟩
set_option maxHeartbeats 400000 in
theorem tH(n:Int)(w:World)(h1:1≤n)(h2:n≤32):
  Calls Tryz.prog 213 #[.int .i64 n] w fun e w'=>e=.returned (.int .u32 (pw n-1))∧w=w':=by
 go_enter Tryz.func213,Tryz.ntmps213
 go_wp2
 go_ret
 exact⟨bi (Pb h1 h2),rfl⟩
set_option maxHeartbeats 400000 in
theorem Cn(v n:Int)(w:World)(h0:0≤v)(h1:v≤4294967295):
  Calls Tryz.prog 224 #[.int .u32 v,.int .i64 n] w fun e w'=>e=.returned (.bool (rO v n))∧w=w':=by
 by_cases hn:0≤n
 ·go_enter Tryz.func224,Tryz.ntmps224
  go_wp2
  go_ret
  exact⟨ax (Lv h0 h1 hn),rfl⟩
 ·go_enter Tryz.func224,Tryz.ntmps224
  go_wp2
  go_ret
  exact⟨ax (Lu h0 (by omega)),rfl⟩
set_option maxHeartbeats 400000 in
theorem OM(x a n:Int)(w:World)(h0:0≤x)(h1:x≤4294967295)(hp:cZ a n=true):
  Calls Tryz.prog 174 #[.int .u32 x,.int .i64 a,.int .i64 n] w fun e w'=>e=.returned (.int .u32 (gN x a n))∧∃k,w'=w.drewN k:=by
 obtain⟨g0,g1,g2,g3⟩:=iV hp
 have HG:Hid (bits .and .u32 (x/2^a.toNat) (pw n-1)=gN x a n):=OJ h0 h1 hp
 have HP:Hid (cZ a n=true):=hp
 clear hp
 go_enter Tryz.func174,Tryz.ntmps174
 go_wp2_with (go_at_call 212;refine(nL _ _ _ HP.out).mono ?_;rintro e w' ⟨rfl,rfl⟩)
 go_quiet ((go_at_call 213;exact Dy (tH _ _ g1 g2)))
 go_wp2
 go_ret
 exact⟨bi HG.out,_,rfl⟩
set_option maxHeartbeats 400000 in
theorem QK(x a n:Int)(w:World)(hp:cZ a n=false):
  Calls Tryz.prog 174 #[.int .u32 x,.int .i64 a,.int .i64 n] w fun e w'=>e=.returned (.int .u32 0)∧w=w':=by
 have HP:Hid (cZ a n=false):=hp
 clear hp
 go_enter Tryz.func174,Tryz.ntmps174
 go_wp2_with (go_at_call 212;refine(vG _ _ _ HP.out).mono ?_;rintro e w' ⟨rfl,rfl⟩)
 go_ret
 exact⟨rfl,rfl⟩
theorem PN{a b c:Int}(h:a=b):Ending.returned (.tuple #[.int .u32 a,.int .i64 c])=.returned (.tuple #[.int .u32 b,.int .i64 c]):=by rw[h]
set_option maxHeartbeats 400000 in
theorem Rt(x a n v:Int)(w:World)(hp:cZ a n=false):
  Calls Tryz.prog 203 #[.int .u32 x,.int .i64 a,.int .i64 n,.int .u32 v] w fun e w'=>e=.returned (.tuple #[.int .u32 0,.int .i64 2])∧w=w':=by
 have HP:Hid (cZ a n=false):=hp
 clear hp
 go_enter Tryz.func203,Tryz.ntmps203
 go_wp2_with (go_at_call 212;refine(vG _ _ _ HP.out).mono ?_;rintro e w' ⟨rfl,rfl⟩)
 go_ret2
 exact⟨rfl,rfl⟩
set_option maxHeartbeats 400000 in
theorem PH(x a n v:Int)(w:World)(hp:cZ a n=true)(hv0:0≤v)(hv1:v≤4294967295)(hf:rO v n=false):
  Calls Tryz.prog 203 #[.int .u32 x,.int .i64 a,.int .i64 n,.int .u32 v] w fun e w'=>e=.returned (.tuple #[.int .u32 0,.int .i64 15])∧w=w':=by
 have HP:Hid (cZ a n=true):=hp
 clear hp
 go_enter Tryz.func203,Tryz.ntmps203
 go_wp2_with (first|(go_at_call 212;refine(nL _ _ _ HP.out).mono ?_;rintro e w' ⟨rfl,rfl⟩)|(go_at_call 224;refine(Cn _ _ _ hv0 hv1).mono ?_;rintro e w' ⟨rfl,rfl⟩))
 go_ret2
 exact⟨rfl,rfl⟩
set_option maxHeartbeats 400000 in
theorem PI(x a n v:Int)(w:World)(h0:0≤x)(h1:x≤4294967295)(hp:cZ a n=true)(hv0:0≤v)(hv1:v≤4294967295)(hf:rO v n=true):
  Calls Tryz.prog 203 #[.int .u32 x,.int .i64 a,.int .i64 n,.int .u32 v] w fun e w'=>e=.returned (.tuple #[.int .u32 (Dv x a n v),.int .i64 0])∧∃k,w'=w.drewN k:=by
 obtain⟨g0,g1,g2,g3⟩:=iV hp
 have HG:Hid (bits .or .u32 (bits .andNot .u32 x (IntKind.u32.wrap ((pw n-1)*2^a.toNat))) (IntKind.u32.wrap (v*2^a.toNat))=Dv x a n v):=Ru h0 h1 hv0 hp hf
 have HP:Hid (cZ a n=true):=hp
 clear hp
 go_enter Tryz.func203,Tryz.ntmps203
 go_wp2_with (first|(go_at_call 212;refine(nL _ _ _ HP.out).mono ?_;rintro e w' ⟨rfl,rfl⟩)|(go_at_call 224;refine(Cn _ _ _ hv0 hv1).mono ?_;rintro e w' ⟨rfl,rfl⟩))
 go_quiet ((go_at_call 213;exact Dy (tH _ _ g1 g2)))
 go_wp2
 go_ret2
 exact⟨PN HG.out,_,rfl⟩
def qR(x a n v:Int):Int:=if cZ a n=true then(if rO v n=true then Dv x a n v else 0) else 0
def MV(a n v:Int):Int:=if cZ a n=true then(if rO v n=true then 0 else 15) else 2
theorem Dx{x a n v:Int}(h1:cZ a n=true)(h2:rO v n=true):qR x a n v=Dv x a n v:=by unfold qR;rw[if_pos h1,if_pos h2]
theorem MW{a n v:Int}(h1:cZ a n=true)(h2:rO v n=true):MV a n v=0:=by unfold MV;rw[if_pos h1,if_pos h2]
theorem wo{a b c d:Int}(h:a=b)(h2:c=d):Ending.returned (.tuple #[.int .u32 a,.int .i64 c])=.returned (.tuple #[.int .u32 b,.int .i64 d]):=by rw[h,h2]
theorem OL(x a n:Int)(w:World)(h0:0≤x)(h1:x≤4294967295):
  Calls Tryz.prog 174 #[.int .u32 x,.int .i64 a,.int .i64 n] w fun e w'=>e=.returned (.int .u32 (gN x a n))∧bR w w':=by
 cases hp:cZ a n
 ·refine(QK x a n w hp).mono fun e w' ⟨he,hw⟩=>⟨?_,hw▸bR.refl w⟩
  rw[he];exact bi (by unfold gN;rw[hp];rfl)
 ·exact OM x a n w h0 h1 hp
theorem PG(x a n v:Int)(w:World)(h0:0≤x)(h1:x≤4294967295)(hv0:0≤v)(hv1:v≤4294967295):
  Calls Tryz.prog 203 #[.int .u32 x,.int .i64 a,.int .i64 n,.int .u32 v] w fun e w'=>e=.returned (.tuple #[.int .u32 (qR x a n v),.int .i64 (MV a n v)])∧bR w w':=by
 cases hp:cZ a n
 ·refine(Rt x a n v w hp).mono fun e w' ⟨he,hw⟩=>⟨?_,hw▸bR.refl w⟩
  rw[he];exact wo (by unfold qR;rw[hp];rfl) (by unfold MV;rw[hp];rfl)
 ·cases hf:rO v n
  ·refine(PH x a n v w hp hv0 hv1 hf).mono fun e w' ⟨he,hw⟩=>⟨?_,hw▸bR.refl w⟩
   rw[he];exact wo (by unfold qR;rw[hp,hf];rfl) (by unfold MV;rw[hp,hf];rfl)
  ·refine(PI x a n v w h0 h1 hp hv0 hv1 hf).mono fun e w' ⟨he,hw⟩=>⟨?_,hw⟩
   rw[he];exact wo (Dx hp hf).symm (MW hp hf).symm
open Classical in
open Classical in
open Classical in
open Classical in
def iQ(n b:Int):Bool:=decide (0≤n∧n<b)
theorem Ii{n b:Int}(h:iQ n b=true):0≤n∧n<b:=of_decide_eq_true h
theorem QT{n b:Int}(h:0≤n∧n<b):iQ n b=true:=decide_eq_true h
theorem Ih{n b:Int}(h:¬(0≤n∧n<b)):iQ n b=false:=decide_eq_false h
def sS(c n s d g:Int):Bool:=iQ c 2&&iQ n 2&&iQ s 2&&iQ d 2&&iQ g 2
def pK(c n s d g:Int):Bool:=decide (c=0∧n=0∧s=0∧d=0∧g=0)
def dn(k c n s d g o:Int):Bool:=iQ k 4&&iQ o 1048576&&(k==3||o==0)&&sS c n s d g&&(!(k==0||k==3)||pK c n s d g)
def bZ(k c n s d g o:Int):Prop:=
 (0≤k∧k<4)∧(0≤o∧o<1048576)∧(k=3∨o=0)∧(0≤c∧c<2)∧(0≤n∧n<2)∧(0≤s∧s<2)∧(0≤d∧d<2)∧(0≤g∧g<2)∧((k=0∨k=3)→c=0∧n=0∧s=0∧d=0∧g=0)
theorem iY{k c n s d g o:Int}:dn k c n s d g o=true↔bZ k c n s d g o:=by
 unfold dn bZ sS pK iQ
 simp only[Bool.and_eq_true,Bool.or_eq_true,Bool.not_eq_true',Bool.or_eq_false_iff,decide_eq_true_eq,beq_iff_eq,beq_eq_false_iff_ne,ne_eq]
 omega
theorem ww{k c n s d g o:Int}(h:dn k c n s d g o=true):bZ k c n s d g o:=iY.1 h
theorem jP{k c n s d g o:Int}(h:bZ k c n s d g o):dn k c n s d g o=true:=iY.2 h
theorem JX{k c n s d g o:Int}(h:¬bZ k c n s d g o):dn k c n s d g o=false:=by
 cases h2:dn k c n s d g o with
 |false=>rfl
 |true=>exact absurd (ww h2) h
theorem uZ{a b:Bool}(h:a=true↔b=true):a=b:=by cases a<;>cases b<;>simp_all
theorem zb{c n s d g:Int}:pK c n s d g=true↔c=0∧n=0∧s=0∧d=0∧g=0:=by unfold pK;simp
theorem Ja{c n s d g:Int}:sS c n s d g=true↔(0≤c∧c<2)∧(0≤n∧n<2)∧(0≤s∧s<2)∧(0≤d∧d<2)∧(0≤g∧g<2):=by
 unfold sS iQ;simp[and_assoc]
theorem TD{k c n s d g o:Int}(h:iQ k 4=false):dn k c n s d g o=false:=by unfold dn;rw[h];rfl
theorem TE{k c n s d g o:Int}(h:iQ o 1048576=false):dn k c n s d g o=false:=by unfold dn;rw[h];simp
theorem RG{k c n s d g o:Int}(h:¬k=3)(h2:¬o=0):dn k c n s d g o=false:=by
 refine JX fun hr=> ?_
 obtain⟨_,_,h3,_⟩:=hr
 omega
theorem TC{c n s d g o:Int}(h:iQ o 1048576=true):dn 3 c n s d g o=pK c n s d g:=by
 have:=Ii h
 refine uZ ?_
 rw[iY,zb];unfold bZ
 omega
theorem TB{c n s d g:Int}:dn 0 c n s d g 0=pK c n s d g:=by
 refine uZ ?_
 rw[iY,zb];unfold bZ
 omega
theorem TF{k c n s d g:Int}(h:iQ k 4=true)(h0:¬k=0)(h3:¬k=3):dn k c n s d g 0=sS c n s d g:=by
 have:=Ii h
 refine uZ ?_
 rw[iY,Ja];unfold bZ
 omega
def cz(k c n s d g o:Int):Int:=k+4*c+8*n+16*s+32*d+64*g+256*o
theorem MX{x a n v:Int}(h0:0≤x)(hx:x<pw a)(hp:cZ a n=true):Dv x a n v=x+v*pw a:=by
 unfold Dv gN
 rw[if_pos hp,Int.ediv_eq_zero_of_lt h0 hx]
 simp
theorem kv{x a n v:Int}(h0:0≤x)(hx:x<pw a)(hp:cZ a n=true)(hf:v<pw n):qR x a n v=x+v*pw a:=by
 rw[Dx hp (decide_eq_true hf),MX h0 hx hp]
theorem xI:pw 1=2:=by decide
theorem Nb:pw 2=4:=by decide
theorem Rv:pw 3=8:=by decide
theorem Rw:pw 4=16:=by decide
theorem Rx:pw 5=32:=by decide
theorem Ry:pw 6=64:=by decide
theorem Rz:pw 8=256:=by decide
theorem Qv:pw 24=16777216:=by decide
def Rk(k:Int):Int:=qR 0 0 2 k
def Rl(k c:Int):Int:=qR (Rk k) 2 1 c
def Rm(k c n:Int):Int:=qR (Rl k c) 3 1 n
def Rn(k c n s:Int):Int:=qR (Rm k c n) 4 1 s
def Ro(k c n s d:Int):Int:=qR (Rn k c n s) 5 1 d
def Rp(k c n s d g:Int):Int:=qR (Ro k c n s d) 6 1 g
def Uf(k c n s d g o:Int):Int:=qR (Rp k c n s d g) 8 24 o
theorem Rq{k c n s d g o:Int}(h:bZ k c n s d g o):
  Uf k c n s d g o=cz k c n s d g o∧(0≤Rk k∧Rk k≤4294967295)∧(0≤Rl k c∧Rl k c≤4294967295)∧(0≤Rm k c n∧Rm k c n≤4294967295)∧(0≤Rn k c n s∧Rn k c n s≤4294967295)∧(0≤Ro k c n s d∧Ro k c n s d≤4294967295)∧(0≤Rp k c n s d g∧Rp k c n s d g≤4294967295):=by
 obtain⟨h1,h2,h3,h4,h5,h6,h7,h8,h9⟩:=h
 have e0:Rk k=k:=by
  unfold Rk;rw[kv (by omega) (by decide) (by decide) (by rw[Nb];omega),Ty];omega
 have e1:Rl k c=k+4*c:=by
  unfold Rl;rw[e0,kv (by omega) (by rw[Nb];omega) (by decide) (by rw[xI];omega),Nb];omega
 have e2:Rm k c n=k+4*c+8*n:=by
  unfold Rm;rw[e1,kv (by omega) (by rw[Rv];omega) (by decide) (by rw[xI];omega),Rv];omega
 have e3:Rn k c n s=k+4*c+8*n+16*s:=by
  unfold Rn;rw[e2,kv (by omega) (by rw[Rw];omega) (by decide) (by rw[xI];omega),Rw];omega
 have e4:Ro k c n s d=k+4*c+8*n+16*s+32*d:=by
  unfold Ro;rw[e3,kv (by omega) (by rw[Rx];omega) (by decide) (by rw[xI];omega),Rx];omega
 have e5:Rp k c n s d g=k+4*c+8*n+16*s+32*d+64*g:=by
  unfold Rp;rw[e4,kv (by omega) (by rw[Ry];omega) (by decide) (by rw[xI];omega),Ry];omega
 have e6:Uf k c n s d g o=k+4*c+8*n+16*s+32*d+64*g+256*o:=by
  unfold Uf;rw[e5,kv (by omega) (by rw[Rz];omega) (by decide) (by rw[Qv];omega),Rz];omega
 unfold cz
 omega
def uK(x:Int):Int:=x%4
def uC(x:Int):Int:=x/4%2
def uN(x:Int):Int:=x/8%2
def uS(x:Int):Int:=x/16%2
def uD(x:Int):Int:=x/32%2
def uG(x:Int):Int:=x/64%2
def uO(x:Int):Int:=x/256
theorem QO(x:Int):gN x 0 2=uK x:=by
 unfold gN uK;rw[if_pos (by decide),Ty,Nb,Int.ediv_one]
theorem QL(x:Int):gN x 2 1=uC x:=by unfold gN uC;rw[if_pos (by decide),xI,Nb]
theorem QP(x:Int):gN x 3 1=uN x:=by unfold gN uN;rw[if_pos (by decide),xI,Rv]
theorem QR(x:Int):gN x 4 1=uS x:=by unfold gN uS;rw[if_pos (by decide),xI,Rw]
theorem QM(x:Int):gN x 5 1=uD x:=by unfold gN uD;rw[if_pos (by decide),xI,Rx]
theorem QN(x:Int):gN x 6 1=uG x:=by unfold gN uG;rw[if_pos (by decide),xI,Ry]
theorem QQ{x:Int}(h0:0≤x)(h1:x≤4294967295):gN x 8 24=uO x:=by
 unfold gN uO;rw[if_pos (by decide),Rz,Qv];omega
theorem unpack_pack{k c n s d g o:Int}(h:bZ k c n s d g o):
  uK (cz k c n s d g o)=k∧uC (cz k c n s d g o)=c∧uN (cz k c n s d g o)=n∧uS (cz k c n s d g o)=s∧uD (cz k c n s d g o)=d∧uG (cz k c n s d g o)=g∧uO (cz k c n s d g o)=o:=by
 obtain⟨h1,h2,h3,h4,h5,h6,h7,h8,h9⟩:=h
 unfold cz uK uC uN uS uD uG uO
 omega
theorem Dk(x:Int):cz (uK x) (uC x) (uN x) (uS x) (uD x) (uG x) (uO x)=x-128*(x/128%2):=by
 unfold cz uK uC uN uS uD uG uO
 omega
def uw(W:Int):Bool:=decide (16≤W∧W≤256)
theorem lN{W:Int}(h:uw W=true):16≤W∧W≤256:=of_decide_eq_true h
theorem rC{W:Int}(h0:16≤W)(h1:W≤256):uw W=true:=decide_eq_true ⟨h0,h1⟩
theorem rD{W:Int}(h:¬(16≤W∧W≤256)):uw W=false:=decide_eq_false h
def aR(W n:Int):Int:=if n≤W-8 then 0 else EW n (W-1)
def sI(l:Int):Int:=if l= -1 then 8 else 1
def rF(W l:Int):Int:=kF [l,W-1]
def bC(W n:Int):Int:=if uw W=true then(if n<0∨ay W<n then 3 else 0) else 1
def aW(W p d:Int):Int:=if uw W=true then(if p<0∨d<0∨ay W<p+d then 3 else 0) else 1
def aM(W p d:Int):Int:=if aW W p d=0 then 1+aR W (p+d) else 0
def bI(W n i:Int):Int:=if bC W n=0 then(if i<0∨n≤i then 7 else 0) else bC W n
def gu(W n i:Int):Int:=if bI W n i=0 then(if n≤W-8 then -1 else i/(W-1)) else 0
def eU(W n i:Int):Int:=if bI W n i=0 then(if n≤W-8 then 8+i else 1+i%(W-1)) else 0
theorem oQ{W n:Int}(h:bC W n=0):16≤W∧W≤256∧0≤n∧n≤ay W:=by
 unfold bC at h
 split at h
 ·rename_i hw
  have:=lN hw
  split at h
  ·cases h
  ·omega
 ·cases h
theorem zA{W n:Int}(h0:16≤W)(h1:W≤256)(h2:0≤n)(h3:n≤ay W):bC W n=0:=by
 unfold bC;rw[if_pos (rC h0 h1),if_neg (by omega)]
theorem qZ{W p d:Int}(h:aW W p d=0):16≤W∧W≤256∧0≤p∧0≤d∧p+d≤ay W:=by
 unfold aW at h
 split at h
 ·rename_i hw
  have:=lN hw
  split at h
  ·cases h
  ·omega
 ·cases h
theorem oL{W n i:Int}(h:bI W n i=0):bC W n=0∧0≤i∧i<n:=by
 unfold bI at h
 split at h
 ·split at h
  ·cases h
  ·exact⟨by assumption,by omega,by omega⟩
 ·exact absurd h (by assumption)
theorem oK{W n i:Int}(h:bC W n=0)(h0:0≤i)(h1:i<n):bI W n i=0:=by
 unfold bI;rw[if_pos h,if_neg (by omega)]
theorem iR{W n:Int}(h0:16≤W)(h1:W≤256)(h2:W-8<n)(h3:n≤ay W):
  1≤aR W n∧aR W n≤W-8∧n≤aR W n*(W-1)∧aR W n*(W-1)<n+W-1:=by
 have e:aR W n=EW n (W-1):=by unfold aR;rw[if_neg (by omega)]
 have u:=GI (a:=n) (b:=W-1) (by omega) (by omega)
 rw[e]
 rw[Int.mul_comm (W-1)] at u
 refine⟨?_,?_,u.2.2.1,by omega⟩
 ·by_cases h:1≤EW n (W-1)
  ·exact h
  ·have:EW n (W-1)=0:=by omega
   rw[this,Int.zero_mul] at u
   omega
 ·by_cases h:EW n (W-1)≤W-8
  ·exact h
  ·have h4:(W-8+1)*(W-1)≤EW n (W-1)*(W-1):=Int.mul_le_mul_of_nonneg_right (by omega) (by omega)
   rw[Int.add_mul] at h4
   have:(W-8)*(W-1)=ay W:=rfl
   omega
theorem fQ{W n:Int}(h:n≤W-8):aR W n=0:=by unfold aR;rw[if_pos h]
theorem jN{W n:Int}(h0:16≤W)(h1:W≤256)(h3:n≤ay W):0≤aR W n∧aR W n≤W-8:=by
 by_cases h:n≤W-8
 ·rw[fQ h];omega
 ·have:=iR h0 h1 (by omega) h3;omega
theorem Im{m a b:Int}(hm:1≤m)(h:a<b):a*m+m≤b*m:=by
 have:(a+1)*m≤b*m:=Int.mul_le_mul_of_nonneg_right (by omega) (by omega)
 rw[Int.add_mul] at this
 omega
theorem OY{m a b:Int}(hm:1≤m)(h:a≤b):a*m≤b*m:=Int.mul_le_mul_of_nonneg_right h (by omega)
theorem IZ{W l:Int}(h0:16≤W)(h1:W≤256)(h:l≤0):rF W l=0:=by
 unfold rF
 rw[CY,QF h,gL (by omega) (by omega),lJ (by omega) (by omega) (by omega) (by omega),Int.zero_mul]
 rfl
theorem La{W l:Int}(h0:16≤W)(h1:W≤256)(h:0≤l)(h2:l≤256):rF W l=l*(W-1):=by
 unfold rF
 have:=za h (show 0≤W-1 by omega) h2 (show W-1≤255 by omega)
 exact kL (by omega) (by omega) (by omega) (by omega) (by omega)
theorem Iz{m i:Int}(hm:1≤m)(hi:0≤i):i=(i/m)*m+i%m∧0≤i%m∧i%m<m∧0≤i/m:=
 ⟨by have:=Int.emod_add_mul_ediv i m;rw[Int.mul_comm] at this;omega,Int.emod_nonneg _ (by omega),Int.emod_lt_of_pos _ (by omega),Int.ediv_nonneg hi (by omega)⟩
theorem kP{W n i:Int}(h:bI W n i=0)(hn:n≤W-8):gu W n i= -1∧eU W n i=8+i:=by
 unfold gu eU;rw[if_pos h,if_pos hn,if_pos h,if_pos hn];exact⟨rfl,rfl⟩
theorem oM{W n i:Int}(h:bI W n i=0)(hn:W-8<n):gu W n i=i/(W-1)∧eU W n i=1+i%(W-1):=by
 unfold gu eU;rw[if_pos h,if_neg (by omega),if_pos h,if_neg (by omega)];exact⟨rfl,rfl⟩
theorem kQ{W n i:Int}(h:bI W n i≠0):gu W n i=0∧eU W n i=0:=by
 unfold gu eU;rw[if_neg h,if_neg h];exact⟨rfl,rfl⟩
end Go.Proofs.YtofhdfjkhfkhiaaGreat.Pk
