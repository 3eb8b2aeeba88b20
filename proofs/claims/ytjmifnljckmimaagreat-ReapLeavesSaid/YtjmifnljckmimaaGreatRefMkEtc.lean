/-
  Texts laid together: RefMk, RefMk2, Tint, TintMk, TintLaw, TintLikeF.
-/
import Derived.Test.YtjmifnljckmimaaGreatRefWEtc
import Derived.Test.YtjmifnljckmimaaGreatProg
import Derived.Test.YtjmifnljckmimaaGreatBaseEtc
import Derived.Test.YtjmifnljckmimaaGreatPlanFnEtc
import Derived.IntWalk
import Derived.OwnWalk
import Derived.Deep.AppendLies
import Derived.Deep.RegionLaw
import Derived.Deep.DeepCutAuto
import Derived.Test.YtjmifnljckmimaaGreatChainsEtc
import Derived.Test.YtjmifnljckmimaaGreatTameEtc
namespace Go.Proofs.YtjmifnljckmimaaGreat.Pk
open Lib (hid)
open Go.RowKit
set_option linter.unusedVariables false
set_option linter.unusedSimpArgs false
set_option maxRecDepth 100000
section
variable {w w' w0 wr:World} {lo:Nat} {lab lab':Nat→Nat} {a:WA} {D:Wd} {i:Nat} {t:Th} {x:TA} {n v b:Nat} {cl:List Nat} {ts:List Th}
def zer(m:Nat):List Int:=List.replicate m 0
theorem nO{row:Option Nat}(hg:w.grownBy w' row):Touch (fun k=>row=some k) w w':=⟨hg.os,hg.tape,hg.output,hg.size,fun k hk hx=>hg.block k hk (fun e=>hx e.symm)⟩
end
section
variable {w w' w0 wr:World} {lo:Nat} {lab lab':Nat→Nat} {a:WA} {D:Wd} {i:Nat} {t:Th} {x:TA} {n v b:Nat} {cl:List Nat} {ts:List Th}
def Wd.made(D:Wd)(b:Nat)(ls cl:List Nat)(np nd:Nat):Wd:={D with clean:=cl,ts:=D.ts++[⟨b,ints ls,zer np,zer nd,false,Mrk.new⟩]}
structure Rest (w:World) (lo:Nat) (lab:Nat→Nat) (a:WA) (D:Wd):Prop where
 wb:Blk w a.q (D.cells a) 78
 lq:lo≤a.q∧lab a.q=0
 mv:w.ownsRow lo 93 1 a.mv D.ts.length (a.tas.map TA.PD)
 lmv:∀g,a.mv.ownBlock=some g→g<w.heap.size∧lab g=3
 mb:∀(i:Nat) t x,D.ts[i]? =some t→a.tas[i]? =some x→Blk w x.mb t.mr.cells 96∧lo≤x.mb∧lab x.mb=8+5*i
 rg:Row w .i64 a.ra (ints D.ring)
 lra:xg w lo lab a.ra D.ring.length 5
 gv:Row w .i64 a.ga (ints D.grave)
 lga:xg w lo lab a.ga D.grave.length 6
theorem Rest.touch{X:Nat→Prop}(h:Rest w lo lab a D)(T:Touch X w w')(hX:∀b,lo≤b→b<w.heap.size→(lab b=0∨lab b=3∨lab b=5∨lab b=6∨∃i,i<D.ts.length∧lab b=8+5*i)→¬X b):Rest w' lo lab a D where
 wb:=h.wb.touch T (hX _ h.lq.1 h.wb.lt (.inl h.lq.2))
 lq:=h.lq
 mv:=gq h.mv T (fun g hg=>hX g (bf h.mv g hg) (h.lmv g hg).1 (.inr (.inl (h.lmv g hg).2)))
 lmv:=fun g hg=>⟨Nat.lt_of_lt_of_le (h.lmv g hg).1 T.size,(h.lmv g hg).2⟩
 mb:=fun i t x h1 h2=>⟨(h.mb i t x h1 h2).1.touch T (hX _ (h.mb i t x h1 h2).2.1 (h.mb i t x h1 h2).1.lt (.inr (.inr (.inr (.inr ⟨i,(List.getElem?_eq_some_iff.1 h1).1,(h.mb i t x h1 h2).2.2⟩))))),(h.mb i t x h1 h2).2⟩
 rg:=h.rg.touch T (h.lra.out (fun b h1 h2 h3=>hX b h1 h2 (.inr (.inr (.inl h3)))))
 lra:=h.lra.le T.size
 gv:=h.gv.touch T (h.lga.out (fun b h1 h2 h3=>hX b h1 h2 (.inr (.inr (.inr (.inl h3))))))
 lga:=h.lga.le T.size
end
def Does(c:Cf)(D:Wd)(f:FuncId)(args:List Value)(B:Nat)(D':Wd)(v:Value):Prop:=∀zs,Wz c zs→av c zs D→∃zs',gY c f args zs B zs' v∧av c zs' D'
structure Gj:Prop where
 phase:∀c D,Does c D 48 [] 1 D (.int .i64 D.phase)
 turn:∀c D,∃v,Does c D 37 [] 2 D.turn v
 begin_:∀c D (ph:Int),Does c D 21 [.int .i64 ph] 5 (D.nH ph) (.bool (phB ph))
 at_:∀c D,Does c D 47 [] 2 D (.tuple #[.int .i64 D.cursor,.int .i64 D.field])
 move:∀c D (x y:Int),Does c D 53 [.int .i64 x,.int .i64 y] 2 (D.yN x y) (.bool (Lc x y))
 dye:∀c D (r:Int),In64 r→Does c D 69 [.int .i64 r] 5 (D.dye r) (.bool (D.find r).isSome)
 black:∀c D (r:Int),In64 r→Does c D 51 [.int .i64 r] 3 D (.bool (D.black r))
 paint:∀c D (r:Int),In64 r→Does c D 54 [.int .i64 r] 4 (D.paint r) (.bool (D.find r).isSome)
 touch:∀c D (r:Int),In64 r→Does c D 88 [.int .i64 r] 14 (D.touch r) (.bool (D.toucht r))
 dead:∀c D (r:Int),In64 r→Does c D 50 [.int .i64 r] 2 D (.bool (D.dead r))
 shadow:∀c D (r:Int),In64 r→Does c D 121 [.int .i64 r] 4 D (.int .i64 (D.dP r))
 aW:∀c D (r:Int),In64 r→D.dP r<4294967295→Does c D 181 [.int .i64 r] 9 (D.aW r) (.bool (D.find r).isSome)
 counted:∀c D (r i:Int),In64 r→Does c D 123 [.int .i64 r,.int .i64 i] 6 D (.bool (D.counted r i))
 done:∀c D (r:Int),In64 r→Does c D 137 [.int .i64 r] 4 (D.done r) (.bool (D.find r).isSome)
def RSt(w:World)(p:Pl)(c:Cf)(D:Wd)(wr:World):Prop:=
 ∃zs m,G wr p c ⟨zs,m⟩∧av c zs D∧(∀k,inG p k→w.heap.size≤k)∧Below w.heap.size w wr
section
variable {w wr w':World} {p:Pl} {c:Cf} {D D':Wd} {zs zs':List Int}
theorem RSt.below(h:RSt w p c D wr):Below w.heap.size w wr:=by obtain⟨zs,m,hG,_,_,hb⟩:=h;exact hb
theorem RSt.later(h:RSt w p c D wr)(hb:Below wr.heap.size wr w'):RSt w p c D w':=by
 obtain⟨zs,m,hG,hh,hp,hB⟩:=h
 exact⟨zs,m,hG.later hb,hh,hp,below_step hB hb⟩
theorem RSt.drw(h:RSt w p c D wr)(d:Drw wr w'):RSt w p c D w':=h.later d.new
theorem RSt.xG(h:RSt w p c D wr){i:Nat}(hi:wr.heap.size≤i):¬jf p i:=by
 obtain⟨zs,m,hG,hh,hp,hB⟩:=h
 intro hx
 have:=hG.dW hx
 omega
theorem RSt.touch{X:Nat→Prop}(h:RSt w p c D wr)(T:Touch X wr w')(hX:∀i,jf p i→¬X i)(hw:∀i,X i→w.heap.size≤i):RSt w p c D w':=by
 obtain⟨zs,m,hG,hh,hp,hB⟩:=h
 exact⟨zs,m,hG.touch T hX,hh,hp,hB.trans (T.below hw hB.size)⟩
theorem RSt.does{f:FuncId}{args:List Value}{B:Nat}{v:Value}(h:RSt w p c D wr)(ha:Does c D f args B D' v):
  Calls Tryz.prog f (List.toArray (.pointer (some ⟨p.a,0,none⟩)::args)) wr fun e w'=>e=.returned v∧RSt w p c D' w'∧Touch (inG p) wr w':=by
 obtain⟨zs,m,hG,hR,hp,hB⟩:=h
 obtain⟨zs',⟨d,_,H⟩,hR'⟩:=ha zs hG.wz hR
 refine(H p m wr hG).mono ?_
 rintro e w' ⟨rfl,hG',hT⟩
 exact⟨rfl,⟨zs',_,hG',hR',hp,hB.trans (hT.below hp hB.size)⟩,hT⟩
theorem RSt.looks{f:FuncId}{args:List Value}{Q:World→Ending→World→Prop}(h:RSt w p c D wr)(ha:∀zs,Wz c zs→av c zs D→Looks c f args zs Q):
  Calls Tryz.prog f (List.toArray (.pointer (some ⟨p.a,0,none⟩)::args)) wr (Q wr):=by
 obtain⟨zs,m,hG,hR,_⟩:=h
 exact ha zs hG.wz hR p m wr hG
theorem nE.rep(h:nE c zs)(hm:c.May):av c zs (Wd.new c.N c.W):=by
 have hf:=h.fresh
 have hr:∀r,3≤r→r<24→nth zs r=0:=hf.reg
 refine⟨rfl,rfl,h.heap,fun t ht=>absurd ht (by simp[Wd.live,Wd.new,aM]),fun t ht=>absurd ht (by simp[Wd.live,Wd.new,aM]),hf.ring h.heap hm,⟨hr 3 (by omega) (by omega),hr 4 (by omega) (by omega),hr 5 (by omega) (by omega),by simp[Wd.new],by simp[Wd.new],trivial⟩,hr 6 (by omega) (by omega),fun k h1 h2=> ?_,.inl rfl,by simp[Wd.new],fun t ht=>absurd ht (by simp[Wd.live,Wd.new,aM])⟩
 rw[hr k (by omega) (by omega)]
 have:k=10∨k=11∨k=12∨k=13∨k=14∨k=15∨k=16∨k=17∨k=18:=by omega
 rcases this with rfl|rfl|rfl|rfl|rfl|rfl|rfl|rfl|rfl<;>rfl
theorem live_made{b:Nat}{ls cl:List Nat}{np nd:Nat}:(D.made b ls cl np nd).live=D.live++[⟨b,ints ls,zer np,zer nd,false,Mrk.new⟩]:=by
 unfold Wd.live Wd.made aM
 simp
theorem Le{b:Nat}{ls:List Nat}{np nd:Nat}:Th.ob ⟨b,ints ls,zer np,zer nd,false,Mrk.new⟩=fZ b np nd ls:=by
 unfold Th.ob fZ ints zer
 simp
theorem Lg{b:Nat}{ls cl:List Nat}{np nd:Nat}:(D.made b ls cl np nd).obs=D.obs++[fZ b np nd ls]:=by
 unfold Wd.obs
 rw[live_made,List.map_append]
 simp only[List.map_cons,List.map_nil,Le]
theorem zA.rep{b:Nat}{ls cl:List Nat}{np nd:Nat}(R:av c zs D)(hm:c.May)(hcl:D.clean=b::ls++cl)(M:zA c zs zs' cl D.obs (fZ b np nd ls)):av c zs' (D.made b ls cl np nd):=by
 have hw:=hm.w
 have hn:=hm.n
 have hO:fZ b np nd ls∈D.obs++[fZ b np nd ls]:=by simp
 have hblk:∀{t:Th} {x:Nat},t∈D.live→x∈t.ob.blocks→∀y,y∈(fZ b np nd ls).blocks→x≠y:=fun {t x} ht hx y hy e=>by
  have:=M.heap.nodupB
  rw[List.flatMap_append,List.nodup_append] at this
  exact this.2.2 x (List.mem_flatMap.2 ⟨t.ob,R.obMem ht,hx⟩) y (by simpa using hy) e
 have hk:∀{t:Th},t∈D.live→∀v,v<8→nth zs' (adr c t.h v)=nth zs (adr c t.h v):=fun {t} ht v hv=>M.out _ (by have:=aI c t.h v;omega) (fun y hy=>iH (hblk ht t.ob.fV y hy) (by omega))
 have hreg:∀r,3≤r→r<24→nth zs' r=nth zs r:=fun r h3 h24=>M.out r (by omega) (fun y _=>oI (by omega))
 have hring:∀x,x∈D.ring→∃t,t∈D.live∧t.h=x:=fun x hx=>by
  obtain⟨o,ho,e⟩:=R.heap.nY hm R.ring hx
  obtain⟨t,ht,rfl⟩:=List.mem_map.1 ho
  exact⟨t,ht,e⟩
 have htok:∀x,x<c.N→dB (nth zs' (adr c x 0)):=fun x hx=>by
  rcases M.heap.kinds hx with h0|⟨o,ho,rfl⟩|⟨y,hy,h2⟩
  ·rw[h0];exact iQ.1
  ·exact(M.heap.obs o ho).tok
  ·rw[h2];exact(nN (by omega)).1
 refine⟨R.n,R.w,by rw[Lg];exact M.heap,fun t ht=> ?_,fun t ht i a hi ha=> ?_,⟨by rw[hreg 7 (by omega) (by omega)];exact R.ring.r7,by rw[hreg 8 (by omega) (by omega)];exact R.ring.r8,by rw[hreg 9 (by omega) (by omega)];exact R.ring.r9,R.ring.lt,R.ring.nd,R.ring.seg.congr (fun x hx=> ?_),htok,fun x hx=> ?_,fun x hx=> ?_⟩,?_,by rw[hreg 6 (by omega) (by omega)];exact R.r6,fun k h1 h2=>by rw[hreg k (by omega) (by omega)];exact R.reg k h1 h2,R.par,fun r hr=> ?_,fun t ht hg=> ?_⟩
 ·rw[live_made] at ht
  rcases List.mem_append.1 ht with h1|h1
  ·obtain⟨a1,a2,a3,a4,a5,a6⟩:=R.own t h1
   constructor<;>rw[hk h1 _ (by omega)]<;>assumption
  ·obtain rfl:=List.mem_singleton.1 h1
   have h0:=M.tag
   have e:nth zs' (adr c b 0)=1∨nth zs' (adr c b 0)=2:=by
    rw[show nth zs' (adr c b 0)=_ from h0]
    split<;>simp
   refine⟨?_,?_,?_,?_,M.own 3 (by omega) (by omega),M.own 4 (by omega) (by omega)⟩
   ·show uC (nth zs' (adr c b 0))=0;rcases e with e|e<;>rw[e]<;>decide
   ·show uN (nth zs' (adr c b 0))=0;rcases e with e|e<;>rw[e]<;>decide
   ·show uS (nth zs' (adr c b 0))=0;rcases e with e|e<;>rw[e]<;>decide
   ·show uD (nth zs' (adr c b 0))=0;rcases e with e|e<;>rw[e]<;>decide
 ·rw[live_made] at ht
  rcases List.mem_append.1 ht with h1|h1
  ·rw[←R.tF t h1 i a hi ha]
   obtain⟨q,hq,rfl⟩:∃q,bi c t.ob i=some q∧adr c q.1 q.2=a:=by
    unfold aS at ha
    cases hp:bi c t.ob i with
    |none=>rw[hp] at ha;cases ha
    |some q=>rw[hp] at ha;simp at ha;exact⟨q,rfl,ha⟩
   have hoff:=fA hm hi hq
   exact M.out _ (by have:=aI c q.1 q.2;omega) (fun y hy=>iH (hblk h1 (fw hq) y hy) hoff.2.1)
  ·obtain rfl:=List.mem_singleton.1 h1
   rw[Le] at hi ha
   have:=M.tF i hi
   unfold fK at this
   rw[ha] at this
   simp only at this
   rw[this]
   unfold Th.tF nth zer
   split<;>simp[List.getD,List.getElem?_replicate]<;>split<;>rfl
 ·obtain⟨t,ht,rfl⟩:=hring x hx
  exact⟨hk ht 6 (by omega),hk ht 7 (by omega)⟩
 ·obtain⟨t,ht,rfl⟩:=hring x hx
  rw[hk ht 0 (by omega)]
  exact R.ring.hd _ hx
 ·by_cases hin:∃t,t∈D.live∧t.h=x
  ·obtain⟨t,ht,rfl⟩:=hin
   rw[hk ht 0 (by omega)]
   exact R.ring.mrk _ hx
  ·have hxr:x∉D.ring:=fun h=>hin (hring x h)
   have:uG (nth zs' (adr c x 0))=0:=by
    rcases M.heap.kinds hx with h0|⟨o,ho,rfl⟩|⟨y,hy,h2⟩
    ·rw[h0];exact iQ.2.1
    ·rcases List.mem_append.1 ho with h1|h1
     ·obtain⟨t,ht,rfl⟩:=List.mem_map.1 h1
      exact absurd ⟨t,ht,rfl⟩ hin
     ·obtain rfl:=List.mem_singleton.1 h1
      rw[show nth zs' (adr c (fZ b np nd ls).h 0)=_ from M.tag]
      split<;>decide
    ·rw[h2];exact(nN (by omega)).2.1
   rw[this]
   simp[Wd.made,hxr]
 ·refine R.grave.congr (hreg 3 (by omega) (by omega)) (hreg 4 (by omega) (by omega)) (hreg 5 (by omega) (by omega)) (fun x hx=> ?_)
  obtain⟨r,hr,e⟩:=List.mem_map.1 hx
  obtain⟨t,ht,e2⟩:=R.gv r hr
  have:x=t.h:=by omega
  rw[this,gD]
  exact hk ht 5 (by omega)
 ·obtain⟨t,ht,e⟩:=R.gv r hr
  exact⟨t,by rw[live_made];simp[ht],e⟩
 ·rw[live_made] at ht
  rcases List.mem_append.1 ht with h1|h1
  ·obtain⟨b1,b2,b3,b4⟩:=R.bur t h1 hg
   exact⟨b1,by rw[hk h1 6 (by omega)];exact b2,by rw[hk h1 7 (by omega)];exact b3,b4⟩
  ·obtain rfl:=List.mem_singleton.1 h1
   obtain⟨t,ht,e⟩:=R.gv _ hg
   exact absurd (show t.h=b by have:t.h+1=b+1:=e;omega) (hblk ht t.ob.fV b (fZ b np nd ls).fV)
end
section
variable (D:Wd) (x y:Int)
def Wd.mkE:Int:=if dM (D.w:Int) x y=0 then(if(D.clean.length:Int)<bL (D.w:Int) x y then 4 else 0) else dM (D.w:Int) x y
def Wd.mkN:Nat:=(bL (D.w:Int) x y).toNat-1
def Wd.mkB:Nat:=D.clean.headD 0
def Wd.mkD:Wd:=if D.mkE x y=0 then D.made D.mkB (D.clean.tail.take (D.mkN x y)) (D.clean.tail.drop (D.mkN x y)) x.toNat y.toNat else D
def Wd.mkR:Int:=if D.mkE x y=0 then(D.mkB:Int)+1 else 0
end
theorem mkE_ok{D:Wd}{x y:Int}(h:D.mkE x y=0):dM (D.w:Int) x y=0∧(x.toNat:Int)=x∧(y.toNat:Int)=y∧x≤63488∧y≤63488∧D.clean=D.mkB::D.clean.tail.take (D.mkN x y)++D.clean.tail.drop (D.mkN x y)∧(1+(D.clean.tail.take (D.mkN x y)).length:Int)=bL (D.w:Int) x y:=by
 unfold Wd.mkE at h
 by_cases hs:dM (D.w:Int) x y=0
 ·rw[if_pos hs] at h
  by_cases hl:(D.clean.length:Int)<bL (D.w:Int) x y
  ·rw[if_pos hl] at h;omega
  ·obtain⟨w0,w1,x0,y0,hf⟩:=rq hs
   have hb:bL (D.w:Int) x y=1+cB (D.w:Int) (x+y):=by unfold bL;rw[if_pos hs]
   have hbd:=lg (W:=(D.w:Int)) (n:=x+y) w0 w1 hf
   have hfl:fieldsI (D.w:Int)≤63488:=by
    unfold fieldsI
    have h1:(D.w:Int)-8≤248:=by omega
    have h2:(D.w:Int)-1≤255:=by omega
    have:=Int.mul_le_mul h1 h2 (by omega) (by omega)
    omega
   refine⟨hs,by omega,by omega,by omega,by omega,?_,?_⟩
   ·cases hc:D.clean with
    |nil=>rw[hc] at hl;simp at hl;omega
    |cons b t=>unfold Wd.mkB;rw[hc];simp
   ·cases hc:D.clean with
    |nil=>rw[hc] at hl;simp at hl;omega
    |cons b t=>
     rw[hc] at hl
     simp at hl
     unfold Wd.mkN
     simp
     omega
 ·rw[if_neg hs] at h
  exact absurd h hs
section
variable {w wr w':World} {p:Pl} {c:Cf} {D D':Wd} {zs zs':List Int} {lo q:Nat}
theorem make_does(O:ObjFns)(c:Cf)(D:Wd)(x y:Int){wr w:World}{p:Pl}(h:RSt w p c D wr):
  Calls Tryz.prog 68 #[.pointer (some ⟨p.a,0,none⟩),.int .i64 x,.int .i64 y] wr fun e w'=>e=.returned (.tuple #[.int .i64 (D.mkR x y),.int .i64 (D.mkE x y)])∧RSt w p c (D.mkD x y) w'∧Touch (inG p) wr w':=by
 obtain⟨zs,m,hG,hR,hp,hB⟩:=h
 have hW:(D.w:Int)=(c.W:Int):=by rw[hR.w]
 by_cases h0:D.mkE x y=0
 ·obtain⟨hs,ex,ey,_,_,hcl,hk⟩:=mkE_ok h0
  have hH:=hR.heap
  rw[hcl] at hH
  rw[hW] at hs hk
  obtain⟨B,zs',⟨d,_,H⟩,hM⟩:=O.make_yes c zs _ _ _ D.obs x.toNat y.toNat hG.wz hH (by rw[ex,ey];exact hs) (by rw[ex,ey];exact hk)
  rw[ex,ey] at H
  refine(H p m wr hG).mono ?_
  rintro e w' ⟨rfl,hG',hT⟩
  refine⟨by unfold Wd.mkR;rw[h0];rfl,⟨zs',_,hG',?_,hp,hB.trans (hT.below hp hB.size)⟩,hT⟩
  unfold Wd.mkD
  rw[if_pos h0]
  exact hM.rep hR hG.may hcl
 ·have hD:D.mkD x y=D:=by unfold Wd.mkD;rw[if_neg h0]
  have hRv:D.mkR x y=0:=by unfold Wd.mkR;rw[if_neg h0]
  rw[hD,hRv]
  by_cases hs:dM (D.w:Int) x y=0
  ·have hl:(D.clean.length:Int)<bL (D.w:Int) x y:=by
    by_cases hl:(D.clean.length:Int)<bL (D.w:Int) x y
    ·exact hl
    ·exact absurd (by unfold Wd.mkE;rw[if_pos hs,if_neg hl]) h0
   have hE:D.mkE x y=4:=by unfold Wd.mkE;rw[if_pos hs,if_pos hl]
   rw[hE]
   rw[hW] at hs hl
   obtain⟨B,d,_,H⟩:=O.make_full c zs D.clean D.obs x y hG.wz hR.heap hs hl
   refine(H p m wr hG).mono ?_
   rintro e w' ⟨rfl,hG',hT⟩
   exact⟨rfl,⟨zs,_,hG',hR,hp,hB.trans (hT.below hp hB.size)⟩,hT⟩
  ·have hE:D.mkE x y=dM (c.W:Int) x y:=by unfold Wd.mkE;rw[if_neg hs,hW]
   rw[hE]
   rw[hW] at hs
   obtain⟨B,d,_,H⟩:=O.make_size c zs x y hG.wz hs
   refine(H p m wr hG).mono ?_
   rintro e w' ⟨rfl,hG',hT⟩
   exact⟨rfl,⟨zs,_,hG',hR,hp,hB.trans (hT.below hp hB.size)⟩,hT⟩
theorem Cq(n v:Nat)(w:World)(hn:n≤10000):
  Calls Tryz.prog 94 #[.int .i64 (n:Int),.int .i64 (v:Int)] w fun e w'=>∃h a cap,e=.returned (.pointer (some ⟨h,0,none⟩))∧Blk w' h #[.int .i64 (n:Int),.int .i64 (v:Int),.slice a n cap,.slice none 0 0] 92∧Row w' .i64 a (ints (List.range n))∧(0<n→∀b off,a=some ⟨b,off,none⟩→w.heap.size≤b∧b<h)∧w.heap.size≤h∧Below w.heap.size w w':=by
 go_enter Tryz.func94,Tryz.ntmps94
 go_wp2_with fail
 refine(Dq n _ hn).mono ?_
 rintro e w1 ⟨a,cap,rfl,hr,hf,hb⟩
 have HR:=hid hr
 have HF:=hid hf
 have HB:=hid hb
 rw[List.length_range]
 clear hr hf hb
 go_wp2_with fail
 go_ret
 refine⟨w1.heap.size,a,cap,rfl,Blk.new _ _ _,HR.out.alloc _,fun h0 b off e=>⟨HF.out b off e,?_⟩,HB.out.size,HB.out.alloc HB.out.size _⟩
 obtain⟨b',off',e',hb',_⟩:=HR.out 0 (by simpa[ints] using h0)
 rw[e] at e'
 cases e'
 exact hb'
theorem Rp(n v:Nat)(w:World)(hn:n≤10000):
  Calls Tryz.prog 36 #[.int .i64 (n:Int),.int .i64 (v:Int)] w fun e w'=>∃q,e=.returned (.pointer (some ⟨q,0,none⟩))∧WRep w' w.heap.size q (Wd.new n v)∧Below w.heap.size w w':=by
 go_enter Tryz.func36,Tryz.ntmps36
 go_wp2_with fail
 refine(Cq n v _ hn).mono ?_
 rintro e w1 ⟨h,a,cap,rfl,hk,hr,hf,hh,hb⟩
 have HK:=hid hk
 have HR:=hid hr
 have HF:=hid hf
 have HB:=hid hb
 have HH:=hid hh
 clear hr hf hb hk hh
 go_wp2_with fail
 go_ret
 have hlt:=HK.out.lt
 refine⟨w1.heap.size,rfl,⟨fun k=>if k=w1.heap.size then 0 else if k=h then 1 else 4,⟨w1.heap.size,h,.slice none 0 0,.slice none 0 0,a,none,none,cap,0,0,[]⟩,rfl,⟨?_,⟨HH.out,?_⟩,rfl,World.ownsRow_nil _ _ _ _,fun g hg=>(by cases hg),fun i t x ht=>(by simp[Wd.new] at ht),?_,?_,fun t ht=>(by simp[Wd.new] at ht)⟩,?_,⟨HB.out.size,if_pos rfl⟩,World.ownsRow_nil _ _ _ _,fun g hg=>(by cases hg),fun i t x ht=>(by simp[Wd.new] at ht),Row.nil _ _ _,xg.nil _ _ _ _ _,Row.nil _ _ _,xg.nil _ _ _ _ _⟩,HB.out.alloc HB.out.size _⟩
 ·have:=HK.out.alloc (.cells #[.pointer (some ⟨h,0,none⟩),.slice none 0 0,.int .i64 0,.int .i64 0,.int .i64 0,.int .i64 0,.int .i64 0,.int .i64 0,.int .i64 0,.int .i64 0,.int .i64 0,.slice none 0 0,.slice none 0 0,.int .i64 0] 78)
  simpa[hcells,Wd.new] using this
 ·show(if h=w1.heap.size then 0 else if h=h then 1 else 4)=1
  rw[if_neg (by omega),if_pos rfl]
 ·exact HR.out.alloc _
 ·intro h0 b off e
  have h0':0<n:=by simpa[Wd.new] using h0
  obtain⟨g1,g2⟩:=HF.out h0' b off e
  refine⟨g1,by simp;omega,?_⟩
  show(if _ then _ else if _ then _ else _)=_
  rw[if_neg (by omega),if_neg (by omega)]
 ·exact Blk.new _ _ _
def JJ(w:World)(c:Cf)(e:Ending)(w':World):Prop:=
 ∃p q lo,e=.returned (.tuple #[.pointer (some ⟨Pl.a p,0,none⟩),.pointer (some ⟨q,0,none⟩),.bool true])∧RSt w p c (Wd.new c.N c.W) w'∧WRep w' lo q (Wd.new c.N c.W)∧(∀i,lo≤i→¬jf p i)∧w.heap.size≤lo∧lo≤w'.heap.size
set_option maxHeartbeats 1000000 in
theorem openedRW_any(F:uB)(c:Cf)(w:World)(hm:c.May)(hn:c.N≤10000):Calls Tryz.prog 8 #[c.val] w (JJ w c):=by
 have hg:=KH c (w.alloc (.cells #[.int .i64 (c.N:Int),.int .i64 (c.W:Int),.int .i64 (c.R:Int),.int .i64 (c.K:Int)] 23)) hm
 unfold Cf.val at hg ⊢
 have HGN:=hid hg
 obtain⟨zo,hzo,hOp⟩:=F.open_yes c hm
 obtain⟨dO,_,HO⟩:=hzo
 have DO:=hid (fun p m w hG=>HO p m w hG)
 have HOp:=hid (hOp.rep hm)
 have HBk0:=hid (Blk.new w #[.int .i64 (c.N:Int),.int .i64 (c.W:Int),.int .i64 (c.R:Int),.int .i64 (c.K:Int)] 23)
 clear hg HO hOp
 go_enter Tryz.func8,Tryz.ntmps8
 go_wp2_with fail
 refine HGN.out.mono ?_
 rintro e w1 ⟨p,rfl,hG,hp,hb⟩
 have HG:=hid hG
 have HBk:=hid (HBk0.out.later hb)
 have HP:Hid (∀k,inG p k→w.heap.size≤k):=hid (fun k hk=>Nat.le_trans (below_new w _).size (hp k (Or.inr hk)))
 have HNo:Hid (¬inG p w.heap.size):=hid (fun hx=>by have:=hp _ (Or.inr hx);simp at this;omega)
 have HB:Hid (Below w.heap.size w w1):=hid (below_step (below_new w _) hb)
 clear hG hp hb
 go_wp2_with fail
 refine(DO.out p 0 _ HG.out).mono ?_
 rintro e w4 ⟨rfl,hG4,hT4⟩
 have HS4:Hid (RSt w p c (Wd.new c.N c.W) w4):=hid ⟨zo,_,hG4,HOp.out,HP.out,HB.out.trans (hT4.below (B:=w.heap.size) HP.out HB.out.size)⟩
 have hk:=HBk.out.touch hT4 HNo.out
 have c0:=hk.cell 0 rfl
 have c1:=hk.cell 1 rfl
 have hz:w.heap.size<w4.heap.size:=hk.lt
 have HW:=hid (Rp c.N c.W w4 hn)
 clear hG4 hT4 hk
 go_wp2_with fail
 refine HW.out.mono ?_
 rintro e w5 ⟨q,rfl,hN,hb⟩
 have HS5:=hid (HS4.out.later hb)
 have HN:=hid hN
 have HSz:Hid (w4.heap.size≤w5.heap.size):=hid hb.size
 clear hN hb
 go_wp2_with fail
 go_ret3
 exact⟨p,q,w4.heap.size,rfl,HS5.out,HN.out,fun i hi=>HS4.out.xG hi,by omega,HSz.out⟩
theorem vX(F:uB)(n:Nat)(w:World)(h0:1≤n)(h1:n≤1000):Calls Tryz.prog 8 #[.agg #[.int .i64 (n:Int),.int .i64 16,.int .i64 1,.int .i64 1]] w (JJ w (cfR n)):=openedRW_any F (cfR n) w (MM h0 h1) (Nat.le_trans h1 (by omega))
end
theorem Does.as{c:Cf}{D D' D2:Wd}{f:FuncId}{args:List Value}{B:Nat}{v v2:Value}(h:Does c D f args B D' v)(hv:v=v2)(hD:D'=D2):Does c D f args B D2 v2:=by subst hv hD;exact h
theorem vb{a b:Bool}(h:a=b):Value.bool a=.bool b:=by rw[h]
theorem vi{a b:Int}(h:a=b):Value.int .i64 a=.int .i64 b:=by rw[h]
theorem vH(r:Int)(h: -1000000≤r∧r≤1000000:=by omega):In64 r:=by unfold In64;omega
structure Rw:Prop where
 turn:∀(w:World),∃v,Calls Tryz.prog 37 #[.pointer none] w fun e w'=>e=.returned v∧Below w.heap.size w w'
 at_:∀(w:World),Calls Tryz.prog 47 #[.pointer none] w fun e w'=>e=.returned (.tuple #[.int .i64 0,.int .i64 0])∧Below w.heap.size w w'
 parity:∀(w:World),Calls Tryz.prog 95 #[.pointer none] w fun e w'=>e=.returned (.int .i64 0)∧Below w.heap.size w w'
 phase:∀(w:World),Calls Tryz.prog 48 #[.pointer none] w fun e w'=>e=.returned (.int .i64 0)∧Below w.heap.size w w'
 begin_:∀(i:Int) (w:World),Calls Tryz.prog 21 #[.pointer none,.int .i64 i] w fun e w'=>e=.returned (.bool false)∧Below w.heap.size w w'
 move:∀(r:Int) (i:Int) (w:World),Calls Tryz.prog 53 #[.pointer none,.int .i64 r,.int .i64 i] w fun e w'=>e=.returned (.bool false)∧Below w.heap.size w w'
 dye:∀(r:Int) (w:World),Calls Tryz.prog 69 #[.pointer none,.int .i64 r] w fun e w'=>e=.returned (.bool false)∧Below w.heap.size w w'
 black:∀(r:Int) (w:World),Calls Tryz.prog 51 #[.pointer none,.int .i64 r] w fun e w'=>e=.returned (.bool false)∧Below w.heap.size w w'
 paint:∀(r:Int) (w:World),Calls Tryz.prog 54 #[.pointer none,.int .i64 r] w fun e w'=>e=.returned (.bool false)∧Below w.heap.size w w'
 touch:∀(r:Int) (w:World),Calls Tryz.prog 88 #[.pointer none,.int .i64 r] w fun e w'=>e=.returned (.bool false)∧Below w.heap.size w w'
 dead:∀(r:Int) (w:World),Calls Tryz.prog 50 #[.pointer none,.int .i64 r] w fun e w'=>e=.returned (.bool false)∧Below w.heap.size w w'
 kill:∀(r:Int) (w:World),Calls Tryz.prog 134 #[.pointer none,.int .i64 r] w fun e w'=>e=.returned (.bool false)∧Below w.heap.size w w'
 shadow:∀(r:Int) (w:World),Calls Tryz.prog 121 #[.pointer none,.int .i64 r] w fun e w'=>e=.returned (.int .i64 0)∧Below w.heap.size w w'
 aW:∀(r:Int) (w:World),Calls Tryz.prog 181 #[.pointer none,.int .i64 r] w fun e w'=>e=.returned (.bool false)∧Below w.heap.size w w'
 aC:∀(r:Int) (w:World),Calls Tryz.prog 188 #[.pointer none,.int .i64 r] w fun e w'=>e=.returned (.bool false)∧Below w.heap.size w w'
 counted:∀(r:Int) (i:Int) (w:World),Calls Tryz.prog 123 #[.pointer none,.int .i64 r,.int .i64 i] w fun e w'=>e=.returned (.bool false)∧Below w.heap.size w w'
 done:∀(r:Int) (w:World),Calls Tryz.prog 137 #[.pointer none,.int .i64 r] w fun e w'=>e=.returned (.bool false)∧Below w.heap.size w w'
section
variable {w wr w':World} {p:Pl} {q lo:Nat} {c:Cf} {D D2 D':Wd}
theorem WRep.touch{X:Nat→Prop}(h:WRep wr lo q D)(T:Touch X wr w')(hX:∀b,lo≤b→¬X b):WRep w' lo q D:=by
 obtain⟨lab,a,e,h⟩:=h
 exact⟨lab,a,e,h.touch T (fun b hb _=>hX b hb)⟩
structure OQ (wr:World) (q:Nat) (D:Wd) (ra:Option Addr) (rc:Nat):Prop where
 c2:wr.cell? ⟨q,2,none⟩=some (.int .i64 D.parity)
 c3:wr.cell? ⟨q,3,none⟩=some (.int .i64 D.phase)
 c4:wr.cell? ⟨q,4,none⟩=some (.int .i64 D.cursor)
 c5:wr.cell? ⟨q,5,none⟩=some (.int .i64 D.field)
 c6:wr.cell? ⟨q,6,none⟩=some (.int .i64 D.scan)
 c7:wr.cell? ⟨q,7,none⟩=some (.int .i64 D.scanF)
 c11:wr.cell? ⟨q,11,none⟩=some (.slice ra D.ring.length rc)
 rg:Row wr .i64 ra (ints D.ring)
 lt:q<wr.heap.size
 out:∀b off,ra=some ⟨b,off,none⟩→0<D.ring.length→lo≤b
theorem OQ.touch{X:Nat→Prop}{ra:Option Addr}{rc:Nat}(h:OQ (lo:=lo) wr q D ra rc)(T:Touch X wr w')(hX:∀b,lo≤b→¬X b)(hq:lo≤q):OQ (lo:=lo) w' q D ra rc:=by
 have hc:∀k,w'.cell? ⟨q,k,none⟩=wr.cell? ⟨q,k,none⟩:=fun k=>T.cell (p:=⟨q,k,none⟩) h.lt (hX q hq)
 exact⟨by rw[hc];exact h.c2,by rw[hc];exact h.c3,by rw[hc];exact h.c4,by rw[hc];exact h.c5,by rw[hc];exact h.c6,by rw[hc];exact h.c7,by rw[hc];exact h.c11,h.rg.touch T (fun h0 b off e hx=>hX b (h.out b off e (by simpa[ints] using h0)) hx),Nat.lt_of_lt_of_le h.lt T.size,h.out⟩
end
section
variable {w:World} {lo q:Nat} {D:Wd}
theorem WRep.black(h:WRep w lo q D)(r:Int):Calls Tryz.prog 119 #[.pointer (some ⟨q,0,none⟩),.int .i64 r] w fun e w'=>e=.returned (.bool (D.black r))∧Drw w w':=by
 obtain⟨lab,a,rfl,k⟩:=h;exact Oy k r
theorem WRep.dead(h:WRep w lo q D)(r:Int):Calls Tryz.prog 120 #[.pointer (some ⟨q,0,none⟩),.int .i64 r] w fun e w'=>e=.returned (.bool (D.dead r))∧Drw w w':=by
 obtain⟨lab,a,rfl,k⟩:=h;exact Qr k r
theorem WRep.dP(h:WRep w lo q D)(r:Int):Calls Tryz.prog 122 #[.pointer (some ⟨q,0,none⟩),.int .i64 r] w fun e w'=>e=.returned (.int .i64 (D.dP r))∧Drw w w':=by
 obtain⟨lab,a,rfl,k⟩:=h;exact Rs k r
theorem WRep.counted(h:WRep w lo q D)(r i:Int):Calls Tryz.prog 124 #[.pointer (some ⟨q,0,none⟩),.int .i64 r,.int .i64 i] w fun e w'=>e=.returned (.bool (D.counted r i))∧Drw w w':=by
 obtain⟨lab,a,rfl,k⟩:=h;exact Jw k r i
end
end Go.Proofs.YtjmifnljckmimaaGreat.Pk
