/-
  Texts laid together: PoolDo, PoolBegun, WRep, RingDo, RingDo2.
-/
import Derived.Test.YtjmifnljckmimaaGreatChainsEtc
import Derived.Test.YtjmifnljckmimaaGreatBaseEtc
import Derived.Deep.RegionHeld3
import Derived.BigQuiet
import Derived.Test.YtjmifnljckmimaaGreatTameEtc
namespace Go.Proofs.YtjmifnljckmimaaGreat.Pk
open Lib (hid)
open Go.RowKit
set_option linter.unusedVariables false
set_option linter.unusedSimpArgs false
structure WQ (w:World) (p:Pl) (c:Cf) (s:St) (l:List Nat) (a:Option Addr):Prop where
 gr:G w p c s
 pool:dx c s.zs l
 r:Row w .i64 a (ints l)
 o:lC (ah p) a (ints l)
 hN:c.N≤5000
theorem WQ.hl{w:World}{p:Pl}{c:Cf}{s:St}{l:List Nat}{a:Option Addr}(h:WQ w p c s l a):l.length≤5000:=Nat.le_trans (di h.pool.ch.nd h.pool.ch.lt) h.hN
set_option maxHeartbeats 400000 in
theorem FQ(n:Nat)(w:World)(hn:n≤10000):
  Calls Tryz.prog 166 #[.int .i64 (n:Int)] w (fA (List.range n) w):=by
 obtain⟨i0,hi,hz0,hz1,hz2⟩:=info_parts jy
 go_enter Tryz.func166,Tryz.ntmps166
 go_wp2
 go_loopw [3,4] (fun v i wr=>∃k:Nat,k≤n∧i=.int .i64 k∧ib w v k (ints (List.range k)) wr) (fun _ i _=>n-(intOf i).toNat)
 case atStart=>exact⟨0,Nat.zero_le _,rfl,World.ownsRow_nil _ _ _ _,Below.refl _ _⟩
 case round=>
  obtain⟨k,hk,rfl,hown,hbel⟩:=hrel
  have hsz:=hbel.size
  by_cases hlt:k<n
  ·have HT:Hid (ints (List.range (k+1))=ints (List.range k)++[(k:Int)]):=hid (by rw[List.range_succ];simp[ints])
   go_wp2_with (at_builtin;refine wpList_append_own _ rfl _ _ 45 rfl w.heap.size 3 i0 (.int .i64 0) 1 8 Tryz.underlying45 hi hz0 hz1 hz2 rfl (by decide) _ _ _ rfl (hown.alloc _) ⟨wr.heap.size,0,none⟩ 1 1 [.int .i64 (k:Int)] rfl rfl ?c1 ?c2 ?c3 ?c4 ?c5 ?c6)
   case c1=>exact cell_one_new wr _ _
   case c2=>intro u hu;simp at hu;subst hu;rfl
   case c3=>unfold maxLen;omega
   case c4=>omega
   case c5=>simp;omega
   case c6=>
    intro v' w1 hown' hgrow _
    have hbel1:Below w.heap.size w w1:=(hbel.alloc hsz _).grown hgrow (by simp;omega) (aN hown)
    have HG:Hid (ib w v' (k+1) (ints (List.range (k+1))) w1):=hid (by
     refine⟨?_,hbel1⟩
     rw[HT.out]
     simpa using hown')
    clear hown' hgrow hbel1 hown hbel
    go_wp2
    go_roundw
    case rel=>exact⟨k+1,by omega,by go_num,HG.out⟩
    case measure=>simp[intOf];omega
  ·have e:k=n:=by omega
   have HO:Hid (fA (List.range n) w (.returned u3) wr):=hid (by
    have h1:ib w u3 k (ints (List.range k)) wr:=⟨hown,hbel⟩
    have:=(dQ.mk (by simp[ints]) h1).Md rfl
    rwa[e] at this)
   clear e hown hbel
   go_wp2
   go_ret
   exact HO.out
structure TA where
 tb:Nat
 mb:Nat
 la:Option Addr
 pa:Option Addr
 da:Option Addr
 lc:Nat
 pc:Nat
 dc:Nat
def TA.MK(x:TA):Value:=.pointer (some ⟨x.tb,0,none⟩)
def TA.OJ(x:TA):Value:=.pointer (some ⟨x.mb,0,none⟩)
structure WA where
 q:Nat
 hb:Nat
 tv:Value
 mv:Value
 ca:Option Addr
 ra:Option Addr
 ga:Option Addr
 cc:Nat
 rc:Nat
 gc:Nat
 tas:List TA
def Th.cells(t:Th)(x:TA):Array Value:= #[.int .i64 (t.h:Int),.slice x.la t.lv.length x.lc,.slice x.pa t.pt.length x.pc,.slice x.da t.dt.length x.dc,.bool t.ended]
def cz.cells(m:cz):Array Value:= #[.int .i64 m.refs,.int .i64 m.color,.int .i64 m.count,.int .i64 m.shade,.int .i64 m.shadow,.bool m.dead,.int .i64 m.left,.int .i64 m.leaves]
def Wd.cells(D:Wd)(a:WA):Array Value:= #[.pointer (some ⟨a.hb,0,none⟩),a.mv,.int .i64 D.parity,.int .i64 D.phase,.int .i64 D.cursor,.int .i64 D.field,.int .i64 D.scan,.int .i64 D.scanF,.int .i64 D.suspect,.int .i64 D.units,.int .i64 D.epochs,.slice a.ra D.ring.length a.rc,.slice a.ga D.grave.length a.gc,.int .i64 D.pending]
def hcells(n v:Nat)(cl:List Nat)(a:WA):Array Value:= #[.int .i64 (n:Int),.int .i64 (v:Int),.slice a.ca cl.length a.cc,a.tv]
def qZ(w:World)(lo:Nat)(lab:Nat→Nat)(a:Option Addr)(n k:Nat):Prop:=0<n→∀b off,a=some ⟨b,off,none⟩→lo≤b∧b<w.heap.size∧lab b=k
theorem qZ.nil(w:World)(lo:Nat)(lab:Nat→Nat)(n k:Nat):qZ w lo lab none n k:=fun _ b off h=>by cases h
theorem qZ.le{w w':World}{lo:Nat}{lab:Nat→Nat}{a:Option Addr}{n k:Nat}(h:qZ w lo lab a n k)(hs:w.heap.size≤w'.heap.size):qZ w' lo lab a n k:=fun h0 b off e=>by
 obtain⟨h1,h2,h3⟩:=h h0 b off e
 exact⟨h1,by omega,h3⟩
theorem qZ.re{w:World}{lo:Nat}{lab lab':Nat→Nat}{a:Option Addr}{n k:Nat}(h:qZ w lo lab a n k)(hl:∀b,b<w.heap.size→lab' b=lab b):qZ w lo lab' a n k:=fun h0 b off e=>by
 obtain⟨h1,h2,h3⟩:=h h0 b off e
 exact⟨h1,h2,by rw[hl b h2];exact h3⟩
structure DD (w:World) (lo:Nat) (lab:Nat→Nat) (i:Nat) (t:Th) (x:TA):Prop where
 tb:aT w x.tb (t.cells x) 100
 lv:dZ w .i64 x.la t.lv
 pt:dZ w .i64 x.pa t.pt
 dt:dZ w .u32 x.da t.dt
 ltb:lo≤x.tb∧lab x.tb=7+5*i
 lla:qZ w lo lab x.la t.lv.length (9+5*i)
 lpa:qZ w lo lab x.pa t.pt.length (10+5*i)
 lda:qZ w lo lab x.da t.dt.length (11+5*i)
structure mY (w:World) (lo:Nat) (lab:Nat→Nat) (a:WA) (n v:Nat) (cl:List Nat) (ts:List Th):Prop where
 hb:aT w a.hb (hcells n v cl a) 92
 lh:lo≤a.hb∧lab a.hb=1
 len:a.tas.length=ts.length
 tv:w.ownsRow lo 97 1 a.tv ts.length (a.tas.map TA.MK)
 ltv:∀g,a.tv.ownBlock=some g→g<w.heap.size∧lab g=2
 th:∀(i:Nat) t x,ts[i]? =some t→a.tas[i]? =some x→DD w lo lab i t x
 crow:Row w .i64 a.ca (ints cl)
 lca:qZ w lo lab a.ca cl.length 4
 bd:∀t,t∈ts→t.h<1000000
structure az (w:World) (lo:Nat) (lab:Nat→Nat) (a:WA) (D:Wd):Prop where
 h:mY w lo lab a D.n D.w D.clean D.ts
 wb:aT w a.q (D.cells a) 78
 lq:lo≤a.q∧lab a.q=0
 mv:w.ownsRow lo 93 1 a.mv D.ts.length (a.tas.map TA.OJ)
 lmv:∀g,a.mv.ownBlock=some g→g<w.heap.size∧lab g=3
 mb:∀(i:Nat) t x,D.ts[i]? =some t→a.tas[i]? =some x→aT w x.mb t.mr.cells 96∧lo≤x.mb∧lab x.mb=8+5*i
 rg:Row w .i64 a.ra (ints D.ring)
 lra:qZ w lo lab a.ra D.ring.length 5
 gv:Row w .i64 a.ga (ints D.grave)
 lga:qZ w lo lab a.ga D.grave.length 6
section
variable {w w':World} {lo:Nat} {lab lab':Nat→Nat} {a:WA} {D:Wd} {X:Nat→Prop} {i n v:Nat} {t:Th} {x:TA} {cl:List Nat} {ts:List Th}
theorem az.c0(h:az w lo lab a D):w.cell? ⟨a.q,0,none⟩=some (.pointer (some ⟨a.hb,0,none⟩)):=h.wb.cell 0 rfl
theorem az.c1(h:az w lo lab a D):w.cell? ⟨a.q,1,none⟩=some (a.mv):=h.wb.cell 1 rfl
theorem az.c2(h:az w lo lab a D):w.cell? ⟨a.q,2,none⟩=some (.int .i64 D.parity):=h.wb.cell 2 rfl
theorem az.c3(h:az w lo lab a D):w.cell? ⟨a.q,3,none⟩=some (.int .i64 D.phase):=h.wb.cell 3 rfl
theorem az.c4(h:az w lo lab a D):w.cell? ⟨a.q,4,none⟩=some (.int .i64 D.cursor):=h.wb.cell 4 rfl
theorem az.c5(h:az w lo lab a D):w.cell? ⟨a.q,5,none⟩=some (.int .i64 D.field):=h.wb.cell 5 rfl
theorem az.c6(h:az w lo lab a D):w.cell? ⟨a.q,6,none⟩=some (.int .i64 D.scan):=h.wb.cell 6 rfl
theorem az.c7(h:az w lo lab a D):w.cell? ⟨a.q,7,none⟩=some (.int .i64 D.scanF):=h.wb.cell 7 rfl
theorem az.c8(h:az w lo lab a D):w.cell? ⟨a.q,8,none⟩=some (.int .i64 D.suspect):=h.wb.cell 8 rfl
theorem az.c11(h:az w lo lab a D):w.cell? ⟨a.q,11,none⟩=some (.slice a.ra D.ring.length a.rc):=h.wb.cell 11 rfl
theorem az.c12(h:az w lo lab a D):w.cell? ⟨a.q,12,none⟩=some (.slice a.ga D.grave.length a.gc):=h.wb.cell 12 rfl
theorem az.c13(h:az w lo lab a D):w.cell? ⟨a.q,13,none⟩=some (.int .i64 D.pending):=h.wb.cell 13 rfl
theorem mY.c0(h:mY w lo lab a n v cl ts):w.cell? ⟨a.hb,0,none⟩=some (.int .i64 (n:Int)):=h.hb.cell 0 rfl
theorem mY.c1(h:mY w lo lab a n v cl ts):w.cell? ⟨a.hb,1,none⟩=some (.int .i64 (v:Int)):=h.hb.cell 1 rfl
theorem mY.c2(h:mY w lo lab a n v cl ts):w.cell? ⟨a.hb,2,none⟩=some (.slice a.ca cl.length a.cc):=h.hb.cell 2 rfl
theorem mY.c3(h:mY w lo lab a n v cl ts):w.cell? ⟨a.hb,3,none⟩=some (a.tv):=h.hb.cell 3 rfl
theorem DD.c0(h:DD w lo lab i t x):w.cell? ⟨x.tb,0,none⟩=some (.int .i64 (t.h:Int)):=h.tb.cell 0 rfl
theorem DD.c1(h:DD w lo lab i t x):w.cell? ⟨x.tb,1,none⟩=some (.slice x.la t.lv.length x.lc):=h.tb.cell 1 rfl
theorem DD.c2(h:DD w lo lab i t x):w.cell? ⟨x.tb,2,none⟩=some (.slice x.pa t.pt.length x.pc):=h.tb.cell 2 rfl
theorem DD.c3(h:DD w lo lab i t x):w.cell? ⟨x.tb,3,none⟩=some (.slice x.da t.dt.length x.dc):=h.tb.cell 3 rfl
theorem DD.c4(h:DD w lo lab i t x):w.cell? ⟨x.tb,4,none⟩=some (.bool t.ended):=h.tb.cell 4 rfl
theorem az.m0(h:az w lo lab a D)(ht:D.ts[i]? =some t)(hx:a.tas[i]? =some x):w.cell? ⟨x.mb,0,none⟩=some (.int .i64 t.mr.refs):=(h.mb i t x ht hx).1.cell 0 rfl
theorem az.m1(h:az w lo lab a D)(ht:D.ts[i]? =some t)(hx:a.tas[i]? =some x):w.cell? ⟨x.mb,1,none⟩=some (.int .i64 t.mr.color):=(h.mb i t x ht hx).1.cell 1 rfl
theorem az.m2(h:az w lo lab a D)(ht:D.ts[i]? =some t)(hx:a.tas[i]? =some x):w.cell? ⟨x.mb,2,none⟩=some (.int .i64 t.mr.count):=(h.mb i t x ht hx).1.cell 2 rfl
theorem az.m3(h:az w lo lab a D)(ht:D.ts[i]? =some t)(hx:a.tas[i]? =some x):w.cell? ⟨x.mb,3,none⟩=some (.int .i64 t.mr.shade):=(h.mb i t x ht hx).1.cell 3 rfl
theorem az.m4(h:az w lo lab a D)(ht:D.ts[i]? =some t)(hx:a.tas[i]? =some x):w.cell? ⟨x.mb,4,none⟩=some (.int .i64 t.mr.shadow):=(h.mb i t x ht hx).1.cell 4 rfl
theorem az.m5(h:az w lo lab a D)(ht:D.ts[i]? =some t)(hx:a.tas[i]? =some x):w.cell? ⟨x.mb,5,none⟩=some (.bool t.mr.dead):=(h.mb i t x ht hx).1.cell 5 rfl
theorem az.m6(h:az w lo lab a D)(ht:D.ts[i]? =some t)(hx:a.tas[i]? =some x):w.cell? ⟨x.mb,6,none⟩=some (.int .i64 t.mr.left):=(h.mb i t x ht hx).1.cell 6 rfl
theorem az.m7(h:az w lo lab a D)(ht:D.ts[i]? =some t)(hx:a.tas[i]? =some x):w.cell? ⟨x.mb,7,none⟩=some (.int .i64 t.mr.leaves):=(h.mb i t x ht hx).1.cell 7 rfl
theorem qZ.out{o:Option Addr}{m k:Nat}{zs:List Int}(h:qZ w lo lab o m k)(hX:∀b,lo≤b→b<w.heap.size→lab b=k→¬X b)(hm:zs.length=m:=by simp[ints]):lC X o zs:=fun h0 b off e=>by
 obtain⟨h1,h2,h3⟩:=h (by omega) b off e
 exact hX b h1 h2 h3
theorem bR{e:TypeId}{size m:Nat}{u:Value}{xs:List Value}(h:w.ownsRow lo e size u m xs)(T:Touch X w w')(hx:∀g,u.ownBlock=some g→¬X g):w'.ownsRow lo e size u m xs:=by
 refine⟨h.1,?_⟩
 rcases h.2 with h0|⟨g,cap,cur,rfl,hb,hg,r⟩
 ·exact .inl h0
 ·exact .inr ⟨g,cap,cur,rfl,hb,(T.block g (lt_of_block hg) (hx g rfl)).trans hg,r⟩
theorem DD.touch(h:DD w lo lab i t x)(T:Touch X w w')(hX:∀b,lo≤b→b<w.heap.size→(lab b=7+5*i∨lab b=9+5*i∨lab b=10+5*i∨lab b=11+5*i)→¬X b):DD w' lo lab i t x where
 tb:=h.tb.touch T (hX _ h.ltb.1 h.tb.lt (.inl h.ltb.2))
 lv:=h.lv.touch T (h.lla.out (fun b h1 h2 h3=>hX b h1 h2 (.inr (.inl h3))))
 pt:=h.pt.touch T (h.lpa.out (fun b h1 h2 h3=>hX b h1 h2 (.inr (.inr (.inl h3)))))
 dt:=h.dt.touch T (h.lda.out (fun b h1 h2 h3=>hX b h1 h2 (.inr (.inr (.inr h3)))))
 ltb:=h.ltb
 lla:=h.lla.le T.size
 lpa:=h.lpa.le T.size
 lda:=h.lda.le T.size
theorem mY.touch(h:mY w lo lab a n v cl ts)(T:Touch X w w')(hX:∀b,lo≤b→b<w.heap.size→(lab b=1∨lab b=2∨lab b=4∨∃i,i<ts.length∧(lab b=7+5*i∨lab b=9+5*i∨lab b=10+5*i∨lab b=11+5*i))→¬X b):mY w' lo lab a n v cl ts where
 hb:=h.hb.touch T (hX _ h.lh.1 h.hb.lt (.inl h.lh.2))
 lh:=h.lh
 len:=h.len
 tv:=bR h.tv T (fun g hg=>hX g (aN h.tv g hg) (h.ltv g hg).1 (.inr (.inl (h.ltv g hg).2)))
 ltv:=fun g hg=>⟨Nat.lt_of_lt_of_le (h.ltv g hg).1 T.size,(h.ltv g hg).2⟩
 th:=fun i t x h1 h2=>(h.th i t x h1 h2).touch T (fun b b1 b2 b3=>hX b b1 b2 (.inr (.inr (.inr ⟨i,(List.getElem?_eq_some_iff.1 h1).1,b3⟩))))
 crow:=h.crow.touch T (h.lca.out (fun b h1 h2 h3=>hX b h1 h2 (.inr (.inr (.inl h3)))))
 lca:=h.lca.le T.size
 bd:=h.bd
theorem az.touch(h:az w lo lab a D)(T:Touch X w w')(hX:∀b,lo≤b→b<w.heap.size→¬X b):az w' lo lab a D where
 h:=h.h.touch T (fun b h1 h2 _=>hX b h1 h2)
 wb:=h.wb.touch T (hX _ h.lq.1 h.wb.lt)
 lq:=h.lq
 mv:=bR h.mv T (fun g hg=>hX g (aN h.mv g hg) (h.lmv g hg).1)
 lmv:=fun g hg=>⟨Nat.lt_of_lt_of_le (h.lmv g hg).1 T.size,(h.lmv g hg).2⟩
 mb:=fun i t x h1 h2=>⟨(h.mb i t x h1 h2).1.touch T (hX _ (h.mb i t x h1 h2).2.1 (h.mb i t x h1 h2).1.lt),(h.mb i t x h1 h2).2⟩
 rg:=h.rg.touch T (h.lra.out (fun b h1 h2 _=>hX b h1 h2))
 lra:=h.lra.le T.size
 gv:=h.gv.touch T (h.lga.out (fun b h1 h2 _=>hX b h1 h2))
 lga:=h.lga.le T.size
theorem az.later(h:az w lo lab a D)(hb:Below w.heap.size w w'):az w' lo lab a D:=h.touch (X:=fun _=>False) (Touch.of_below hb) (fun _ _ _=>id)
theorem az.dF(h:az w lo lab a D)(d:dK w w'):az w' lo lab a D:=h.later d.new
def fF(lo:Nat)(lab:Nat→Nat)(K:Nat)(w w':World):Prop:=Touch (fun b=>lo≤b∧b<w.heap.size∧lab b=K) w w'
theorem fF.cell{K b k:Nat}(h0:lo≤b)(hl:lab b=K)(u:Value):fF lo lab K w (w.setCell ⟨b,k,none⟩ u):=(Touch.refl _ _).setCell (fun h=>⟨h0,h,hl⟩) u
theorem az.ug(h:az w lo lab a D)(ht:D.ts[i]? =some t)(hx:a.tas[i]? =some x){k:Nat}{u:Value}{m:cz}(e:t.mr.cells.setIfInBounds k u=m.cells):
  az (w.setCell ⟨x.mb,k,none⟩ u) lo lab a {D with ts:=D.ts.set i {t with mr:=m}}:=by
 obtain⟨hB,hlo,hl⟩:=h.mb i t x ht hx
 have T:fF lo lab (8+5*i) w (w.setCell ⟨x.mb,k,none⟩ u):=fF.cell hlo hl u
 have hi:=(List.getElem?_eq_some_iff.1 ht).1
 have hsz:(w.setCell ⟨x.mb,k,none⟩ u).heap.size=w.heap.size:=by simp
 have H:=h.h.touch T (fun b _ _ h3 h4=>by have:=h4.2.2;omega)
 refine⟨⟨H.hb,H.lh,by simpa using H.len,by simpa using H.tv,H.ltv,fun j s y hs hy=> ?_,H.crow,H.lca,fun s hs=>by
   rcases List.mem_or_eq_of_mem_set hs with g|rfl
   ·exact h.h.bd s g
   ·exact h.h.bd t (List.mem_of_getElem? ht)⟩,h.wb.touch T (fun h4=>by have:=h4.2.2;have:=h.lq.2;omega),h.lq,by simpa using bR h.mv T (fun g hg h4=>by have:=h4.2.2;have:=(h.lmv g hg).2;omega),fun g hg=>⟨by rw[hsz];exact(h.lmv g hg).1,(h.lmv g hg).2⟩,fun j s y hs hy=> ?_,h.rg.touch T (h.lra.out (fun b _ _ h3 h4=>by have:=h4.2.2;omega)),h.lra.le T.size,h.gv.touch T (h.lga.out (fun b _ _ h3 h4=>by have:=h4.2.2;omega)),h.lga.le T.size⟩
 ·by_cases hj:j=i
  ·subst hj
   simp[hi] at hs
   subst hs
   have:=H.th j t x ht hx
   rw[hx] at hy
   cases hy
   exact⟨this.tb,this.lv,this.pt,this.dt,this.ltb,this.lla,this.lpa,this.lda⟩
  ·rw[List.getElem?_set_ne (Ne.symm hj)] at hs
   exact H.th j s y hs hy
 ·by_cases hj:j=i
  ·subst hj
   simp[hi] at hs
   subst hs
   rw[hx] at hy
   cases hy
   exact⟨hB.put k u e,hlo,hl⟩
  ·rw[List.getElem?_set_ne (Ne.symm hj)] at hs
   obtain⟨g1,g2,g3⟩:=h.mb j s y hs hy
   exact⟨g1.touch T (fun h4=>by have:=h4.2.2;omega),g2,g3⟩
theorem az.fI(h:az w lo lab a D){D':Wd}{k:Nat}{u:Value}(e:(D.cells a).setIfInBounds k u=D'.cells a)(hn:D'.n=D.n)(hv:D'.w=D.w)(hc:D'.clean=D.clean)(ht:D'.ts=D.ts)(hr:D'.ring=D.ring)(hg:D'.grave=D.grave):
  az (w.setCell ⟨a.q,k,none⟩ u) lo lab a D':=by
 have T:fF lo lab 0 w (w.setCell ⟨a.q,k,none⟩ u):=fF.cell h.lq.1 h.lq.2 u
 have H:=h.h.touch T (fun b _ _ h3 h4=>by have:=h4.2.2;omega)
 have hsz:(w.setCell ⟨a.q,k,none⟩ u).heap.size=w.heap.size:=by simp
 refine⟨by rw[hn,hv,hc,ht];exact H,h.wb.put k u e,h.lq,by rw[ht];exact bR h.mv T (fun g hg h4=>by have:=h4.2.2;have:=(h.lmv g hg).2;omega),fun g hg=>⟨by rw[hsz];exact(h.lmv g hg).1,(h.lmv g hg).2⟩,fun j s y hs hy=> ?_,by rw[hr];exact h.rg.touch T (h.lra.out (fun b _ _ h3 h4=>by have:=h4.2.2;omega)),by rw[hr];exact h.lra.le T.size,by rw[hg];exact h.gv.touch T (h.lga.out (fun b _ _ h3 h4=>by have:=h4.2.2;omega)),by rw[hg];exact h.lga.le T.size⟩
 rw[ht] at hs
 obtain⟨g1,g2,g3⟩:=h.mb j s y hs hy
 exact⟨g1.touch T (fun h4=>by have:=h4.2.2;omega),g2,g3⟩
theorem DD.re(h:DD w lo lab i t x)(hl:∀b,b<w.heap.size→lab' b=lab b):DD w lo lab' i t x:=
 ⟨h.tb,h.lv,h.pt,h.dt,⟨h.ltb.1,by rw[hl _ h.tb.lt];exact h.ltb.2⟩,h.lla.re hl,h.lpa.re hl,h.lda.re hl⟩
theorem mY.re(h:mY w lo lab a n v cl ts)(hl:∀b,b<w.heap.size→lab' b=lab b):mY w lo lab' a n v cl ts:=
 ⟨h.hb,⟨h.lh.1,by rw[hl _ h.hb.lt];exact h.lh.2⟩,h.len,h.tv,fun g hg=>⟨(h.ltv g hg).1,by rw[hl g (h.ltv g hg).1];exact(h.ltv g hg).2⟩,fun i t x h1 h2=>(h.th i t x h1 h2).re hl,h.crow,h.lca.re hl,h.bd⟩
theorem az.re(h:az w lo lab a D)(hl:∀b,b<w.heap.size→lab' b=lab b):az w lo lab' a D:=
 ⟨h.h.re hl,h.wb,⟨h.lq.1,by rw[hl _ h.wb.lt];exact h.lq.2⟩,h.mv,fun g hg=>⟨(h.lmv g hg).1,by rw[hl g (h.lmv g hg).1];exact(h.lmv g hg).2⟩,fun i t x h1 h2=>by
  obtain⟨g1,g2,g3⟩:=h.mb i t x h1 h2
  exact⟨g1,g2,by rw[hl _ g1.lt];exact g3⟩,h.rg,h.lra.re hl,h.gv,h.lga.re hl⟩
theorem az.KO(h:az w lo lab a D){ra:Option Addr}{rc:Nat}{l:List Nat}(hr:Row w .i64 ra (ints l))(hL:qZ w lo lab ra l.length 5):
  az (w.setCell ⟨a.q,11,none⟩ (.slice ra l.length rc)) lo lab {a with ra:=ra,rc:=rc} {D with ring:=l}:=by
 have T:fF lo lab 0 w (w.setCell ⟨a.q,11,none⟩ (.slice ra l.length rc)):=fF.cell h.lq.1 h.lq.2 _
 have H:=h.h.touch T (fun b _ _ h3 h4=>by have:=h4.2.2;omega)
 have hsz:(w.setCell ⟨a.q,11,none⟩ (.slice ra l.length rc)).heap.size=w.heap.size:=by simp
 refine⟨⟨H.hb,H.lh,H.len,H.tv,H.ltv,H.th,H.crow,H.lca,H.bd⟩,h.wb.put 11 _ rfl,h.lq,bR h.mv T (fun g hg h4=>by have:=h4.2.2;have:=(h.lmv g hg).2;omega),fun g hg=>⟨by rw[hsz];exact(h.lmv g hg).1,(h.lmv g hg).2⟩,fun j s y hs hy=> ?_,hr.touch T (hL.out (fun b _ _ h3 h4=>by have:=h4.2.2;omega)),hL.le T.size,h.gv.touch T (h.lga.out (fun b _ _ h3 h4=>by have:=h4.2.2;omega)),h.lga.le T.size⟩
 obtain⟨g1,g2,g3⟩:=h.mb j s y hs hy
 exact⟨g1.touch T (fun h4=>by have:=h4.2.2;omega),g2,g3⟩
theorem az.PP(h:az w lo lab a D){ga:Option Addr}{gc:Nat}{l:List Nat}(hr:Row w .i64 ga (ints l))(hL:qZ w lo lab ga l.length 6):
  az (w.setCell ⟨a.q,12,none⟩ (.slice ga l.length gc)) lo lab {a with ga:=ga,gc:=gc} {D with grave:=l}:=by
 have T:fF lo lab 0 w (w.setCell ⟨a.q,12,none⟩ (.slice ga l.length gc)):=fF.cell h.lq.1 h.lq.2 _
 have H:=h.h.touch T (fun b _ _ h3 h4=>by have:=h4.2.2;omega)
 have hsz:(w.setCell ⟨a.q,12,none⟩ (.slice ga l.length gc)).heap.size=w.heap.size:=by simp
 refine⟨⟨H.hb,H.lh,H.len,H.tv,H.ltv,H.th,H.crow,H.lca,H.bd⟩,h.wb.put 12 _ rfl,h.lq,bR h.mv T (fun g hg h4=>by have:=h4.2.2;have:=(h.lmv g hg).2;omega),fun g hg=>⟨by rw[hsz];exact(h.lmv g hg).1,(h.lmv g hg).2⟩,fun j s y hs hy=> ?_,h.rg.touch T (h.lra.out (fun b _ _ h3 h4=>by have:=h4.2.2;omega)),h.lra.le T.size,hr.touch T (hL.out (fun b _ _ h3 h4=>by have:=h4.2.2;omega)),hL.le T.size⟩
 obtain⟨g1,g2,g3⟩:=h.mb j s y hs hy
 exact⟨g1.touch T (fun h4=>by have:=h4.2.2;omega),g2,g3⟩
theorem xU{w1:World}{o:Option Addr}{l:List Nat}(hr:Row w1 .i64 o (ints l))(hf:∀b off,o=some ⟨b,off,none⟩→w.heap.size≤b)(hlo:lo≤w.heap.size)(k:Nat):
  ∃lab',(∀b,b<w.heap.size→lab' b=lab b)∧qZ w1 lo lab' o l.length k:=by
 refine⟨fun b=>if w.heap.size≤b then k else lab b,fun b hb=>if_neg (by omega),fun h0 b off e=> ?_⟩
 obtain⟨b',off',e',hb',_⟩:=hr 0 (by simpa[ints] using h0)
 rw[e] at e'
 cases e'
 have:=hf b off e
 exact⟨by omega,hb',if_pos this⟩
end
theorem wC{zs:List Int}{b:Int}{k:Nat}(hk:k<zs.length)(h:nth zs k≠b):(zs.take (k+1)).filter (fun x=>x !=b)=(zs.take k).filter (fun x=>x !=b)++[nth zs k]:=by
 rw[jh hk,List.filter_append]
 simp[h]
theorem xm{zs:List Int}{b:Int}{k:Nat}(hk:k<zs.length)(h:nth zs k=b):(zs.take (k+1)).filter (fun x=>x !=b)=(zs.take k).filter (fun x=>x !=b):=by
 rw[jh hk,List.filter_append]
 simp[h]
set_option maxHeartbeats 2000000 in
theorem zm(a:Option Addr)(cap:Nat)(zs:List Int)(b:Int)(w:World)(hr:Row w .i64 a zs)(hl:zs.length≤10000):
  Calls Tryz.prog 115 #[.slice a zs.length cap,.int .i64 b] w (dQ w (zs.filter (fun x=>x !=b))):=by
 obtain⟨i0,hi,hz0,hz1,hz2⟩:=info_parts jy
 go_enter Tryz.func115,Tryz.ntmps115
 go_wp2
 go_loopw [5,6] (fun v i wr=>∃k:Nat,k≤zs.length∧i=.int .i64 k∧∃m,m≤k∧ib w v m ((zs.take k).filter (fun x=>x !=b)) wr) (fun _ i _=>zs.length-(intOf i).toNat)
 case atStart=>exact⟨0,Nat.zero_le _,rfl,0,Nat.le_refl _,World.ownsRow_nil _ _ _ _,Below.refl _ _⟩
 case round=>
  obtain⟨k,hk,rfl,m,hm,hown,hbel⟩:=hrel
  by_cases hlt:k<zs.length
  ·obtain⟨g,off,rfl,hb,hcw⟩:=hr k hlt
   have hc:=(hbel.cell (p:=⟨g,off+k,none⟩) hb).trans hcw
   have hsz:=hbel.size
   by_cases he:nth zs k=b
   ·have HT:=hid (xm hlt he)
    have hn:(nth zs k !=b)=false:=by simp[he]
    have HG:Hid (ib w u5 m ((zs.take (k+1)).filter (fun x=>x !=b)) wr):=hid (by rw[HT.out];exact⟨hown,hbel⟩)
    clear hcw hown hbel he
    go_wp2
    go_roundw
    case rel=>exact⟨k+1,by omega,by go_num,m,by omega,HG.out⟩
    case measure=>simp[intOf];omega
   ·have HT:=hid (wC hlt he)
    have hn:(nth zs k !=b)=true:=by simp[he]
    have HW:=hid hcw
    clear hcw he
    go_wp2_with (at_builtin;refine wpList_append_own _ rfl _ _ 45 rfl w.heap.size 3 i0 (.int .i64 0) 1 8 Tryz.underlying45 hi hz0 hz1 hz2 rfl (by decide) _ _ _ rfl (hown.alloc _) ⟨wr.heap.size,0,none⟩ 1 1 [.int .i64 (nth zs k)] rfl rfl ?c1 ?c2 ?c3 ?c4 ?c5 ?c6)
    case c1=>exact cell_one_new wr _ _
    case c2=>intro u hu;simp at hu;subst hu;rfl
    case c3=>unfold maxLen;omega
    case c4=>omega
    case c5=>simp;omega
    case c6=>
     intro v' w1 hown' hgrow _
     have hbel1:Below w.heap.size w w1:=(hbel.alloc hsz _).grown hgrow (by simp;omega) (aN hown)
     have HG:Hid (ib w v' (m+1) ((zs.take (k+1)).filter (fun x=>x !=b)) w1):=by
      refine⟨?_,hbel1⟩
      rw[HT.out]
      simpa using hown'
     clear hown' hgrow hbel1 hown hbel hc hn
     go_wp2
     go_roundw
     case rel=>exact⟨k+1,by omega,by go_num,m+1,by omega,HG.out⟩
     case measure=>simp[intOf];omega
  ·have e:k=zs.length:=by omega
   have HO:Hid (dQ w (zs.filter (fun x=>x !=b)) (.returned u5) wr):=by
    have h1:ib w u5 m (zs.filter (fun x=>x !=b)) wr:=by
     have:=(⟨hown,hbel⟩:ib w u5 m ((zs.take k).filter (fun x=>x !=b)) wr)
     rwa[e,List.take_length] at this
    have hm2:m=(zs.filter (fun x=>x !=b)).length:=by
     have:=h1.1.1
     simp at this
     omega
    exact dQ.mk hm2 h1
   clear e hown hbel
   go_wp2
   go_ret
   exact HO.out
theorem mF(l:List Nat)(b:Nat):(ints l).filter (fun x=>x !=(b:Int))=ints (l.filter (fun x=>x !=b)):=by
 induction l with
 |nil=>rfl
 |cons x t ih=>
  show(((x:Int)::ints t).filter _)=ints (List.filter _ (x::t))
  by_cases h:x=b
  ·subst h;simp[ih]
  ·have h1:((x:Int)!=(b:Int))=true:=by simp;omega
   have h2:(x !=b)=true:=by simp[h]
   rw[List.filter_cons_of_pos (p:=fun x=>x !=(b:Int)) h1,List.filter_cons_of_pos (p:=fun x=>x !=b) h2,ih];rfl
theorem tZ(a:Option Addr)(cap:Nat)(l l':List Nat)(b:Int)(w:World)(hr:Row w .i64 a (ints l))(hl:l.length≤9000)(hf:(ints l).filter (fun x=>x !=b)=ints l'):
  Calls Tryz.prog 115 #[.slice a l.length cap,.int .i64 b] w (fA l' w):=by
 have:=zm a cap (ints l) b w hr (by rw[aC];omega)
 rw[aC] at this
 exact this.mono (fun e w' h=>h.Md hf)
end Go.Proofs.YtjmifnljckmimaaGreat.Pk
