/-
  Texts laid together: PoolDo, PoolBegun, WRep, RingDo, RingDo2.
-/
import Derived.Test.YtofhdfjkhfkhiaaGreatChainsEtc
import Derived.Test.YtofhdfjkhfkhiaaGreatBaseEtc
import Derived.Deep.RegionHeld3
import Derived.BigQuiet
import Derived.Test.YtofhdfjkhfkhiaaGreatTameEtc
namespace Go.Proofs.YtofhdfjkhfkhiaaGreat.Pk
open Lib (hid)
open Go.RowKit
set_option linter.unusedVariables false
set_option linter.unusedSimpArgs false
structure Uy (w:World) (p:Pl) (c:Cf) (s:St) (l:List Nat) (a:Option Addr):Prop where
 gr:G w p c s
 pool:bS c s.zs l
 r:Row w .i64 a (ints l)
 o:RowOut (inG p) a (ints l)
 hN:c.N≤5000
theorem Uy.hl{w:World}{p:Pl}{c:Cf}{s:St}{l:List Nat}{a:Option Addr}(h:Uy w p c s l a):l.length≤5000:=Nat.le_trans (bN h.pool.ch.nd h.pool.ch.lt) h.hN
set_option maxHeartbeats 400000 in
theorem DD(n:Nat)(w:World)(hn:n≤10000):
  Calls Tryz.prog 156 #[.int .i64 (n:Int)] w (dJ (List.range n) w):=by
 obtain⟨i0,hi,hz0,hz1,hz2⟩:=info_parts infoInt
 go_enter Tryz.func156,Tryz.ntmps156
 go_wp2
 go_loopw [3,4] (fun v i wr=>∃k:Nat,k≤n∧i=.int .i64 k∧fC w v k (ints (List.range k)) wr) (fun _ i _=>n-(intOf i).toNat)
 case atStart=>exact⟨0,Nat.zero_le _,rfl,World.ownsRow_nil _ _ _ _,Below.refl _ _⟩
 case round=>
  obtain⟨k,hk,rfl,hown,hbel⟩:=hrel
  have hsz:=hbel.size
  by_cases hlt:k<n
  ·have HT:Hid (ints (List.range (k+1))=ints (List.range k)++[(k:Int)]):=hid (by rw[List.range_succ];simp[ints])
   go_wp2_with (at_builtin;refine wpList_append_own _ rfl _ _ 30 rfl w.heap.size 3 i0 (.int .i64 0) 1 8 Tryz.underlying30 hi hz0 hz1 hz2 rfl (by decide) _ _ _ rfl (hown.alloc _) ⟨wr.heap.size,0,none⟩ 1 1 [.int .i64 (k:Int)] rfl rfl ?c1 ?c2 ?c3 ?c4 ?c5 ?c6)
   case c1=>exact cell_one_new wr _ _
   case c2=>intro u hu;simp at hu;subst hu;rfl
   case c3=>unfold maxLen;omega
   case c4=>omega
   case c5=>simp;omega
   case c6=>
    intro v' w1 hown' hgrow _
    have hbel1:Below w.heap.size w w1:=(hbel.alloc hsz _).grown hgrow (by simp;omega) (owns_block hown)
    have HG:Hid (fC w v' (k+1) (ints (List.range (k+1))) w1):=hid (by
     refine⟨?_,hbel1⟩
     rw[HT.out]
     simpa using hown')
    clear hown' hgrow hbel1 hown hbel
    go_wp2
    go_roundw
    case rel=>exact⟨k+1,by omega,by go_num,HG.out⟩
    case measure=>simp[intOf];omega
  ·have e:k=n:=by omega
   have HO:Hid (dJ (List.range n) w (.returned u3) wr):=hid (by
    have h1:fC w u3 k (ints (List.range k)) wr:=⟨hown,hbel⟩
    have:=(cO.mk (by simp[ints]) h1).JK rfl
    rwa[e] at this)
   clear e hown hbel
   go_wp2
   go_ret
   exact HO.out
structure TA where
 tb:Nat
 mb:Nat
 la:Option Addr
 pa:Option Addr
 da:Option Addr
 lc:Nat
 pc:Nat
 dc:Nat
def TA.Kl(x:TA):Value:=.pointer (some ⟨x.tb,0,none⟩)
def TA.MB(x:TA):Value:=.pointer (some ⟨x.mb,0,none⟩)
structure WA where
 q:Nat
 hb:Nat
 tv:Value
 mv:Value
 ca:Option Addr
 ra:Option Addr
 ga:Option Addr
 cc:Nat
 rc:Nat
 gc:Nat
 tas:List TA
def Th.cells(t:Th)(x:TA):Array Value:= #[.int .i64 (t.h:Int),.slice x.la t.lv.length x.lc,.slice x.pa t.pt.length x.pc,.slice x.da t.dt.length x.dc,.bool t.ended]
def Mrk.cells(m:Mrk):Array Value:= #[.int .i64 m.refs,.int .i64 m.color,.int .i64 m.count,.int .i64 m.shade,.int .i64 m.shadow,.bool m.dead,.int .i64 m.left,.int .i64 m.leaves]
def Wd.cells(D:Wd)(a:WA):Array Value:= #[.pointer (some ⟨a.hb,0,none⟩),a.mv,.int .i64 D.parity,.int .i64 D.phase,.int .i64 D.cursor,.int .i64 D.field,.int .i64 D.scan,.int .i64 D.scanF,.int .i64 D.suspect,.int .i64 D.units,.int .i64 D.epochs,.slice a.ra D.ring.length a.rc,.slice a.ga D.grave.length a.gc,.int .i64 D.pending]
def hcells(n v:Nat)(cl:List Nat)(a:WA):Array Value:= #[.int .i64 (n:Int),.int .i64 (v:Int),.slice a.ca cl.length a.cc,a.tv]
def oU(w:World)(lo:Nat)(lab:Nat→Nat)(a:Option Addr)(n k:Nat):Prop:=0<n→∀b off,a=some ⟨b,off,none⟩→lo≤b∧b<w.heap.size∧lab b=k
theorem oU.nil(w:World)(lo:Nat)(lab:Nat→Nat)(n k:Nat):oU w lo lab none n k:=fun _ b off h=>by cases h
theorem oU.le{w w':World}{lo:Nat}{lab:Nat→Nat}{a:Option Addr}{n k:Nat}(h:oU w lo lab a n k)(hs:w.heap.size≤w'.heap.size):oU w' lo lab a n k:=fun h0 b off e=>by
 obtain⟨h1,h2,h3⟩:=h h0 b off e
 exact⟨h1,by omega,h3⟩
theorem oU.re{w:World}{lo:Nat}{lab lab':Nat→Nat}{a:Option Addr}{n k:Nat}(h:oU w lo lab a n k)(hl:∀b,b<w.heap.size→lab' b=lab b):oU w lo lab' a n k:=fun h0 b off e=>by
 obtain⟨h1,h2,h3⟩:=h h0 b off e
 exact⟨h1,h2,by rw[hl b h2];exact h3⟩
structure BB (w:World) (lo:Nat) (lab:Nat→Nat) (i:Nat) (t:Th) (x:TA):Prop where
 tb:Blk w x.tb (t.cells x) 104
 lv:OwnR w .i64 x.la t.lv
 pt:OwnR w .i64 x.pa t.pt
 dt:OwnR w .u32 x.da t.dt
 ltb:lo≤x.tb∧lab x.tb=7+5*i
 lla:oU w lo lab x.la t.lv.length (9+5*i)
 lpa:oU w lo lab x.pa t.pt.length (10+5*i)
 lda:oU w lo lab x.da t.dt.length (11+5*i)
structure kY (w:World) (lo:Nat) (lab:Nat→Nat) (a:WA) (n v:Nat) (cl:List Nat) (ts:List Th):Prop where
 hb:Blk w a.hb (hcells n v cl a) 96
 lh:lo≤a.hb∧lab a.hb=1
 len:a.tas.length=ts.length
 tv:w.ownsRow lo 101 1 a.tv ts.length (a.tas.map TA.Kl)
 ltv:∀g,a.tv.ownBlock=some g→g<w.heap.size∧lab g=2
 th:∀(i:Nat) t x,ts[i]? =some t→a.tas[i]? =some x→BB w lo lab i t x
 crow:Row w .i64 a.ca (ints cl)
 lca:oU w lo lab a.ca cl.length 4
 bd:∀t,t∈ts→t.h<1000000
structure aj (w:World) (lo:Nat) (lab:Nat→Nat) (a:WA) (D:Wd):Prop where
 h:kY w lo lab a D.n D.w D.clean D.ts
 wb:Blk w a.q (D.cells a) 59
 lq:lo≤a.q∧lab a.q=0
 mv:w.ownsRow lo 97 1 a.mv D.ts.length (a.tas.map TA.MB)
 lmv:∀g,a.mv.ownBlock=some g→g<w.heap.size∧lab g=3
 mb:∀(i:Nat) t x,D.ts[i]? =some t→a.tas[i]? =some x→Blk w x.mb t.mr.cells 100∧lo≤x.mb∧lab x.mb=8+5*i
 rg:Row w .i64 a.ra (ints D.ring)
 lra:oU w lo lab a.ra D.ring.length 5
 gv:Row w .i64 a.ga (ints D.grave)
 lga:oU w lo lab a.ga D.grave.length 6
section
variable {w w':World} {lo:Nat} {lab lab':Nat→Nat} {a:WA} {D:Wd} {X:Nat→Prop} {i n v:Nat} {t:Th} {x:TA} {cl:List Nat} {ts:List Th}
theorem aj.c0(h:aj w lo lab a D):w.cell? ⟨a.q,0,none⟩=some (.pointer (some ⟨a.hb,0,none⟩)):=h.wb.cell 0 rfl
theorem aj.c1(h:aj w lo lab a D):w.cell? ⟨a.q,1,none⟩=some (a.mv):=h.wb.cell 1 rfl
theorem aj.c2(h:aj w lo lab a D):w.cell? ⟨a.q,2,none⟩=some (.int .i64 D.parity):=h.wb.cell 2 rfl
theorem aj.c3(h:aj w lo lab a D):w.cell? ⟨a.q,3,none⟩=some (.int .i64 D.phase):=h.wb.cell 3 rfl
theorem aj.c4(h:aj w lo lab a D):w.cell? ⟨a.q,4,none⟩=some (.int .i64 D.cursor):=h.wb.cell 4 rfl
theorem aj.c5(h:aj w lo lab a D):w.cell? ⟨a.q,5,none⟩=some (.int .i64 D.field):=h.wb.cell 5 rfl
theorem aj.c6(h:aj w lo lab a D):w.cell? ⟨a.q,6,none⟩=some (.int .i64 D.scan):=h.wb.cell 6 rfl
theorem aj.c7(h:aj w lo lab a D):w.cell? ⟨a.q,7,none⟩=some (.int .i64 D.scanF):=h.wb.cell 7 rfl
theorem aj.c8(h:aj w lo lab a D):w.cell? ⟨a.q,8,none⟩=some (.int .i64 D.suspect):=h.wb.cell 8 rfl
theorem aj.c11(h:aj w lo lab a D):w.cell? ⟨a.q,11,none⟩=some (.slice a.ra D.ring.length a.rc):=h.wb.cell 11 rfl
theorem aj.c12(h:aj w lo lab a D):w.cell? ⟨a.q,12,none⟩=some (.slice a.ga D.grave.length a.gc):=h.wb.cell 12 rfl
theorem aj.c13(h:aj w lo lab a D):w.cell? ⟨a.q,13,none⟩=some (.int .i64 D.pending):=h.wb.cell 13 rfl
theorem kY.c0(h:kY w lo lab a n v cl ts):w.cell? ⟨a.hb,0,none⟩=some (.int .i64 (n:Int)):=h.hb.cell 0 rfl
theorem kY.c1(h:kY w lo lab a n v cl ts):w.cell? ⟨a.hb,1,none⟩=some (.int .i64 (v:Int)):=h.hb.cell 1 rfl
theorem kY.c2(h:kY w lo lab a n v cl ts):w.cell? ⟨a.hb,2,none⟩=some (.slice a.ca cl.length a.cc):=h.hb.cell 2 rfl
theorem kY.c3(h:kY w lo lab a n v cl ts):w.cell? ⟨a.hb,3,none⟩=some (a.tv):=h.hb.cell 3 rfl
theorem BB.c0(h:BB w lo lab i t x):w.cell? ⟨x.tb,0,none⟩=some (.int .i64 (t.h:Int)):=h.tb.cell 0 rfl
theorem BB.c1(h:BB w lo lab i t x):w.cell? ⟨x.tb,1,none⟩=some (.slice x.la t.lv.length x.lc):=h.tb.cell 1 rfl
theorem BB.c2(h:BB w lo lab i t x):w.cell? ⟨x.tb,2,none⟩=some (.slice x.pa t.pt.length x.pc):=h.tb.cell 2 rfl
theorem BB.c3(h:BB w lo lab i t x):w.cell? ⟨x.tb,3,none⟩=some (.slice x.da t.dt.length x.dc):=h.tb.cell 3 rfl
theorem BB.c4(h:BB w lo lab i t x):w.cell? ⟨x.tb,4,none⟩=some (.bool t.ended):=h.tb.cell 4 rfl
theorem aj.m0(h:aj w lo lab a D)(ht:D.ts[i]? =some t)(hx:a.tas[i]? =some x):w.cell? ⟨x.mb,0,none⟩=some (.int .i64 t.mr.refs):=(h.mb i t x ht hx).1.cell 0 rfl
theorem aj.m1(h:aj w lo lab a D)(ht:D.ts[i]? =some t)(hx:a.tas[i]? =some x):w.cell? ⟨x.mb,1,none⟩=some (.int .i64 t.mr.color):=(h.mb i t x ht hx).1.cell 1 rfl
theorem aj.m2(h:aj w lo lab a D)(ht:D.ts[i]? =some t)(hx:a.tas[i]? =some x):w.cell? ⟨x.mb,2,none⟩=some (.int .i64 t.mr.count):=(h.mb i t x ht hx).1.cell 2 rfl
theorem aj.m3(h:aj w lo lab a D)(ht:D.ts[i]? =some t)(hx:a.tas[i]? =some x):w.cell? ⟨x.mb,3,none⟩=some (.int .i64 t.mr.shade):=(h.mb i t x ht hx).1.cell 3 rfl
theorem aj.m4(h:aj w lo lab a D)(ht:D.ts[i]? =some t)(hx:a.tas[i]? =some x):w.cell? ⟨x.mb,4,none⟩=some (.int .i64 t.mr.shadow):=(h.mb i t x ht hx).1.cell 4 rfl
theorem aj.m5(h:aj w lo lab a D)(ht:D.ts[i]? =some t)(hx:a.tas[i]? =some x):w.cell? ⟨x.mb,5,none⟩=some (.bool t.mr.dead):=(h.mb i t x ht hx).1.cell 5 rfl
theorem aj.m6(h:aj w lo lab a D)(ht:D.ts[i]? =some t)(hx:a.tas[i]? =some x):w.cell? ⟨x.mb,6,none⟩=some (.int .i64 t.mr.left):=(h.mb i t x ht hx).1.cell 6 rfl
theorem aj.m7(h:aj w lo lab a D)(ht:D.ts[i]? =some t)(hx:a.tas[i]? =some x):w.cell? ⟨x.mb,7,none⟩=some (.int .i64 t.mr.leaves):=(h.mb i t x ht hx).1.cell 7 rfl
theorem oU.out{o:Option Addr}{m k:Nat}{zs:List Int}(h:oU w lo lab o m k)(hX:∀b,lo≤b→b<w.heap.size→lab b=k→¬X b)(hm:zs.length=m:=by simp[ints]):RowOut X o zs:=fun h0 b off e=>by
 obtain⟨h1,h2,h3⟩:=h (by omega) b off e
 exact hX b h1 h2 h3
theorem own_touchX{e:TypeId}{size m:Nat}{u:Value}{xs:List Value}(h:w.ownsRow lo e size u m xs)(T:Touch X w w')(hx:∀g,u.ownBlock=some g→¬X g):w'.ownsRow lo e size u m xs:=by
 refine⟨h.1,?_⟩
 rcases h.2 with h0|⟨g,cap,cur,rfl,hb,hg,r⟩
 ·exact .inl h0
 ·exact .inr ⟨g,cap,cur,rfl,hb,(T.block g (lt_of_block hg) (hx g rfl)).trans hg,r⟩
theorem BB.touch(h:BB w lo lab i t x)(T:Touch X w w')(hX:∀b,lo≤b→b<w.heap.size→(lab b=7+5*i∨lab b=9+5*i∨lab b=10+5*i∨lab b=11+5*i)→¬X b):BB w' lo lab i t x where
 tb:=h.tb.touch T (hX _ h.ltb.1 h.tb.lt (.inl h.ltb.2))
 lv:=h.lv.touch T (h.lla.out (fun b h1 h2 h3=>hX b h1 h2 (.inr (.inl h3))))
 pt:=h.pt.touch T (h.lpa.out (fun b h1 h2 h3=>hX b h1 h2 (.inr (.inr (.inl h3)))))
 dt:=h.dt.touch T (h.lda.out (fun b h1 h2 h3=>hX b h1 h2 (.inr (.inr (.inr h3)))))
 ltb:=h.ltb
 lla:=h.lla.le T.size
 lpa:=h.lpa.le T.size
 lda:=h.lda.le T.size
theorem kY.touch(h:kY w lo lab a n v cl ts)(T:Touch X w w')(hX:∀b,lo≤b→b<w.heap.size→(lab b=1∨lab b=2∨lab b=4∨∃i,i<ts.length∧(lab b=7+5*i∨lab b=9+5*i∨lab b=10+5*i∨lab b=11+5*i))→¬X b):kY w' lo lab a n v cl ts where
 hb:=h.hb.touch T (hX _ h.lh.1 h.hb.lt (.inl h.lh.2))
 lh:=h.lh
 len:=h.len
 tv:=own_touchX h.tv T (fun g hg=>hX g (owns_block h.tv g hg) (h.ltv g hg).1 (.inr (.inl (h.ltv g hg).2)))
 ltv:=fun g hg=>⟨Nat.lt_of_lt_of_le (h.ltv g hg).1 T.size,(h.ltv g hg).2⟩
 th:=fun i t x h1 h2=>(h.th i t x h1 h2).touch T (fun b b1 b2 b3=>hX b b1 b2 (.inr (.inr (.inr ⟨i,(List.getElem?_eq_some_iff.1 h1).1,b3⟩))))
 crow:=h.crow.touch T (h.lca.out (fun b h1 h2 h3=>hX b h1 h2 (.inr (.inr (.inl h3)))))
 lca:=h.lca.le T.size
 bd:=h.bd
theorem aj.touch(h:aj w lo lab a D)(T:Touch X w w')(hX:∀b,lo≤b→b<w.heap.size→¬X b):aj w' lo lab a D where
 h:=h.h.touch T (fun b h1 h2 _=>hX b h1 h2)
 wb:=h.wb.touch T (hX _ h.lq.1 h.wb.lt)
 lq:=h.lq
 mv:=own_touchX h.mv T (fun g hg=>hX g (owns_block h.mv g hg) (h.lmv g hg).1)
 lmv:=fun g hg=>⟨Nat.lt_of_lt_of_le (h.lmv g hg).1 T.size,(h.lmv g hg).2⟩
 mb:=fun i t x h1 h2=>⟨(h.mb i t x h1 h2).1.touch T (hX _ (h.mb i t x h1 h2).2.1 (h.mb i t x h1 h2).1.lt),(h.mb i t x h1 h2).2⟩
 rg:=h.rg.touch T (h.lra.out (fun b h1 h2 _=>hX b h1 h2))
 lra:=h.lra.le T.size
 gv:=h.gv.touch T (h.lga.out (fun b h1 h2 _=>hX b h1 h2))
 lga:=h.lga.le T.size
theorem aj.later(h:aj w lo lab a D)(hb:Below w.heap.size w w'):aj w' lo lab a D:=h.touch (X:=fun _=>False) (Touch.of_below hb) (fun _ _ _=>id)
theorem aj.bE(h:aj w lo lab a D)(d:bR w w'):aj w' lo lab a D:=h.later d.new
def dQ(lo:Nat)(lab:Nat→Nat)(K:Nat)(w w':World):Prop:=Touch (fun b=>lo≤b∧b<w.heap.size∧lab b=K) w w'
theorem dQ.cell{K b k:Nat}(h0:lo≤b)(hl:lab b=K)(u:Value):dQ lo lab K w (w.setCell ⟨b,k,none⟩ u):=(Touch.refl _ _).setCell (fun h=>⟨h0,h,hl⟩) u
theorem aj.mI(h:aj w lo lab a D)(ht:D.ts[i]? =some t)(hx:a.tas[i]? =some x){k:Nat}{u:Value}{m:Mrk}(e:t.mr.cells.setIfInBounds k u=m.cells):
  aj (w.setCell ⟨x.mb,k,none⟩ u) lo lab a {D with ts:=D.ts.set i {t with mr:=m}}:=by
 obtain⟨hB,hlo,hl⟩:=h.mb i t x ht hx
 have T:dQ lo lab (8+5*i) w (w.setCell ⟨x.mb,k,none⟩ u):=dQ.cell hlo hl u
 have hi:=(List.getElem?_eq_some_iff.1 ht).1
 have hsz:(w.setCell ⟨x.mb,k,none⟩ u).heap.size=w.heap.size:=by simp
 have H:=h.h.touch T (fun b _ _ h3 h4=>by have:=h4.2.2;omega)
 refine⟨⟨H.hb,H.lh,by simpa using H.len,by simpa using H.tv,H.ltv,fun j s y hs hy=> ?_,H.crow,H.lca,fun s hs=>by
   rcases List.mem_or_eq_of_mem_set hs with g|rfl
   ·exact h.h.bd s g
   ·exact h.h.bd t (List.mem_of_getElem? ht)⟩,h.wb.touch T (fun h4=>by have:=h4.2.2;have:=h.lq.2;omega),h.lq,by simpa using own_touchX h.mv T (fun g hg h4=>by have:=h4.2.2;have:=(h.lmv g hg).2;omega),fun g hg=>⟨by rw[hsz];exact(h.lmv g hg).1,(h.lmv g hg).2⟩,fun j s y hs hy=> ?_,h.rg.touch T (h.lra.out (fun b _ _ h3 h4=>by have:=h4.2.2;omega)),h.lra.le T.size,h.gv.touch T (h.lga.out (fun b _ _ h3 h4=>by have:=h4.2.2;omega)),h.lga.le T.size⟩
 ·by_cases hj:j=i
  ·subst hj
   simp[hi] at hs
   subst hs
   have:=H.th j t x ht hx
   rw[hx] at hy
   cases hy
   exact⟨this.tb,this.lv,this.pt,this.dt,this.ltb,this.lla,this.lpa,this.lda⟩
  ·rw[List.getElem?_set_ne (Ne.symm hj)] at hs
   exact H.th j s y hs hy
 ·by_cases hj:j=i
  ·subst hj
   simp[hi] at hs
   subst hs
   rw[hx] at hy
   cases hy
   exact⟨hB.put k u e,hlo,hl⟩
  ·rw[List.getElem?_set_ne (Ne.symm hj)] at hs
   obtain⟨g1,g2,g3⟩:=h.mb j s y hs hy
   exact⟨g1.touch T (fun h4=>by have:=h4.2.2;omega),g2,g3⟩
theorem aj.bP(h:aj w lo lab a D){D':Wd}{k:Nat}{u:Value}(e:(D.cells a).setIfInBounds k u=D'.cells a)(hn:D'.n=D.n)(hv:D'.w=D.w)(hc:D'.clean=D.clean)(ht:D'.ts=D.ts)(hr:D'.ring=D.ring)(hg:D'.grave=D.grave):
  aj (w.setCell ⟨a.q,k,none⟩ u) lo lab a D':=by
 have T:dQ lo lab 0 w (w.setCell ⟨a.q,k,none⟩ u):=dQ.cell h.lq.1 h.lq.2 u
 have H:=h.h.touch T (fun b _ _ h3 h4=>by have:=h4.2.2;omega)
 have hsz:(w.setCell ⟨a.q,k,none⟩ u).heap.size=w.heap.size:=by simp
 refine⟨by rw[hn,hv,hc,ht];exact H,h.wb.put k u e,h.lq,by rw[ht];exact own_touchX h.mv T (fun g hg h4=>by have:=h4.2.2;have:=(h.lmv g hg).2;omega),fun g hg=>⟨by rw[hsz];exact(h.lmv g hg).1,(h.lmv g hg).2⟩,fun j s y hs hy=> ?_,by rw[hr];exact h.rg.touch T (h.lra.out (fun b _ _ h3 h4=>by have:=h4.2.2;omega)),by rw[hr];exact h.lra.le T.size,by rw[hg];exact h.gv.touch T (h.lga.out (fun b _ _ h3 h4=>by have:=h4.2.2;omega)),by rw[hg];exact h.lga.le T.size⟩
 rw[ht] at hs
 obtain⟨g1,g2,g3⟩:=h.mb j s y hs hy
 exact⟨g1.touch T (fun h4=>by have:=h4.2.2;omega),g2,g3⟩
theorem BB.re(h:BB w lo lab i t x)(hl:∀b,b<w.heap.size→lab' b=lab b):BB w lo lab' i t x:=
 ⟨h.tb,h.lv,h.pt,h.dt,⟨h.ltb.1,by rw[hl _ h.tb.lt];exact h.ltb.2⟩,h.lla.re hl,h.lpa.re hl,h.lda.re hl⟩
theorem kY.re(h:kY w lo lab a n v cl ts)(hl:∀b,b<w.heap.size→lab' b=lab b):kY w lo lab' a n v cl ts:=
 ⟨h.hb,⟨h.lh.1,by rw[hl _ h.hb.lt];exact h.lh.2⟩,h.len,h.tv,fun g hg=>⟨(h.ltv g hg).1,by rw[hl g (h.ltv g hg).1];exact(h.ltv g hg).2⟩,fun i t x h1 h2=>(h.th i t x h1 h2).re hl,h.crow,h.lca.re hl,h.bd⟩
theorem aj.re(h:aj w lo lab a D)(hl:∀b,b<w.heap.size→lab' b=lab b):aj w lo lab' a D:=
 ⟨h.h.re hl,h.wb,⟨h.lq.1,by rw[hl _ h.wb.lt];exact h.lq.2⟩,h.mv,fun g hg=>⟨(h.lmv g hg).1,by rw[hl g (h.lmv g hg).1];exact(h.lmv g hg).2⟩,fun i t x h1 h2=>by
  obtain⟨g1,g2,g3⟩:=h.mb i t x h1 h2
  exact⟨g1,g2,by rw[hl _ g1.lt];exact g3⟩,h.rg,h.lra.re hl,h.gv,h.lga.re hl⟩
theorem aj.IE(h:aj w lo lab a D){ra:Option Addr}{rc:Nat}{l:List Nat}(hr:Row w .i64 ra (ints l))(hL:oU w lo lab ra l.length 5):
  aj (w.setCell ⟨a.q,11,none⟩ (.slice ra l.length rc)) lo lab {a with ra:=ra,rc:=rc} {D with ring:=l}:=by
 have T:dQ lo lab 0 w (w.setCell ⟨a.q,11,none⟩ (.slice ra l.length rc)):=dQ.cell h.lq.1 h.lq.2 _
 have H:=h.h.touch T (fun b _ _ h3 h4=>by have:=h4.2.2;omega)
 have hsz:(w.setCell ⟨a.q,11,none⟩ (.slice ra l.length rc)).heap.size=w.heap.size:=by simp
 refine⟨⟨H.hb,H.lh,H.len,H.tv,H.ltv,H.th,H.crow,H.lca,H.bd⟩,h.wb.put 11 _ rfl,h.lq,own_touchX h.mv T (fun g hg h4=>by have:=h4.2.2;have:=(h.lmv g hg).2;omega),fun g hg=>⟨by rw[hsz];exact(h.lmv g hg).1,(h.lmv g hg).2⟩,fun j s y hs hy=> ?_,hr.touch T (hL.out (fun b _ _ h3 h4=>by have:=h4.2.2;omega)),hL.le T.size,h.gv.touch T (h.lga.out (fun b _ _ h3 h4=>by have:=h4.2.2;omega)),h.lga.le T.size⟩
 obtain⟨g1,g2,g3⟩:=h.mb j s y hs hy
 exact⟨g1.touch T (fun h4=>by have:=h4.2.2;omega),g2,g3⟩
theorem aj.Nr(h:aj w lo lab a D){ga:Option Addr}{gc:Nat}{l:List Nat}(hr:Row w .i64 ga (ints l))(hL:oU w lo lab ga l.length 6):
  aj (w.setCell ⟨a.q,12,none⟩ (.slice ga l.length gc)) lo lab {a with ga:=ga,gc:=gc} {D with grave:=l}:=by
 have T:dQ lo lab 0 w (w.setCell ⟨a.q,12,none⟩ (.slice ga l.length gc)):=dQ.cell h.lq.1 h.lq.2 _
 have H:=h.h.touch T (fun b _ _ h3 h4=>by have:=h4.2.2;omega)
 have hsz:(w.setCell ⟨a.q,12,none⟩ (.slice ga l.length gc)).heap.size=w.heap.size:=by simp
 refine⟨⟨H.hb,H.lh,H.len,H.tv,H.ltv,H.th,H.crow,H.lca,H.bd⟩,h.wb.put 12 _ rfl,h.lq,own_touchX h.mv T (fun g hg h4=>by have:=h4.2.2;have:=(h.lmv g hg).2;omega),fun g hg=>⟨by rw[hsz];exact(h.lmv g hg).1,(h.lmv g hg).2⟩,fun j s y hs hy=> ?_,h.rg.touch T (h.lra.out (fun b _ _ h3 h4=>by have:=h4.2.2;omega)),h.lra.le T.size,hr.touch T (hL.out (fun b _ _ h3 h4=>by have:=h4.2.2;omega)),hL.le T.size⟩
 obtain⟨g1,g2,g3⟩:=h.mb j s y hs hy
 exact⟨g1.touch T (fun h4=>by have:=h4.2.2;omega),g2,g3⟩
theorem vU{w1:World}{o:Option Addr}{l:List Nat}(hr:Row w1 .i64 o (ints l))(hf:∀b off,o=some ⟨b,off,none⟩→w.heap.size≤b)(hlo:lo≤w.heap.size)(k:Nat):
  ∃lab',(∀b,b<w.heap.size→lab' b=lab b)∧oU w1 lo lab' o l.length k:=by
 refine⟨fun b=>if w.heap.size≤b then k else lab b,fun b hb=>if_neg (by omega),fun h0 b off e=> ?_⟩
 obtain⟨b',off',e',hb',_⟩:=hr 0 (by simpa[ints] using h0)
 rw[e] at e'
 cases e'
 have:=hf b off e
 exact⟨by omega,hb',if_pos this⟩
end
theorem uk{zs:List Int}{b:Int}{k:Nat}(hk:k<zs.length)(h:nth zs k≠b):(zs.take (k+1)).filter (fun x=>x !=b)=(zs.take k).filter (fun x=>x !=b)++[nth zs k]:=by
 rw[gX hk,List.filter_append]
 simp[h]
theorem vk{zs:List Int}{b:Int}{k:Nat}(hk:k<zs.length)(h:nth zs k=b):(zs.take (k+1)).filter (fun x=>x !=b)=(zs.take k).filter (fun x=>x !=b):=by
 rw[gX hk,List.filter_append]
 simp[h]
set_option maxHeartbeats 2000000 in
theorem xJ(a:Option Addr)(cap:Nat)(zs:List Int)(b:Int)(w:World)(hr:Row w .i64 a zs)(hl:zs.length≤10000):
  Calls Tryz.prog 217 #[.slice a zs.length cap,.int .i64 b] w (cO w (zs.filter (fun x=>x !=b))):=by
 obtain⟨i0,hi,hz0,hz1,hz2⟩:=info_parts infoInt
 go_enter Tryz.func217,Tryz.ntmps217
 go_wp2
 go_loopw [5,6] (fun v i wr=>∃k:Nat,k≤zs.length∧i=.int .i64 k∧∃m,m≤k∧fC w v m ((zs.take k).filter (fun x=>x !=b)) wr) (fun _ i _=>zs.length-(intOf i).toNat)
 case atStart=>exact⟨0,Nat.zero_le _,rfl,0,Nat.le_refl _,World.ownsRow_nil _ _ _ _,Below.refl _ _⟩
 case round=>
  obtain⟨k,hk,rfl,m,hm,hown,hbel⟩:=hrel
  by_cases hlt:k<zs.length
  ·obtain⟨g,off,rfl,hb,hcw⟩:=hr k hlt
   have hc:=(hbel.cell (p:=⟨g,off+k,none⟩) hb).trans hcw
   have hsz:=hbel.size
   by_cases he:nth zs k=b
   ·have HT:=hid (vk hlt he)
    have hn:(nth zs k !=b)=false:=by simp[he]
    have HG:Hid (fC w u5 m ((zs.take (k+1)).filter (fun x=>x !=b)) wr):=hid (by rw[HT.out];exact⟨hown,hbel⟩)
    clear hcw hown hbel he
    go_wp2
    go_roundw
    case rel=>exact⟨k+1,by omega,by go_num,m,by omega,HG.out⟩
    case measure=>simp[intOf];omega
   ·have HT:=hid (uk hlt he)
    have hn:(nth zs k !=b)=true:=by simp[he]
    have HW:=hid hcw
    clear hcw he
    go_wp2_with (at_builtin;refine wpList_append_own _ rfl _ _ 30 rfl w.heap.size 3 i0 (.int .i64 0) 1 8 Tryz.underlying30 hi hz0 hz1 hz2 rfl (by decide) _ _ _ rfl (hown.alloc _) ⟨wr.heap.size,0,none⟩ 1 1 [.int .i64 (nth zs k)] rfl rfl ?c1 ?c2 ?c3 ?c4 ?c5 ?c6)
    case c1=>exact cell_one_new wr _ _
    case c2=>intro u hu;simp at hu;subst hu;rfl
    case c3=>unfold maxLen;omega
    case c4=>omega
    case c5=>simp;omega
    case c6=>
     intro v' w1 hown' hgrow _
     have hbel1:Below w.heap.size w w1:=(hbel.alloc hsz _).grown hgrow (by simp;omega) (owns_block hown)
     have HG:Hid (fC w v' (m+1) ((zs.take (k+1)).filter (fun x=>x !=b)) w1):=by
      refine⟨?_,hbel1⟩
      rw[HT.out]
      simpa using hown'
     clear hown' hgrow hbel1 hown hbel hc hn
     go_wp2
     go_roundw
     case rel=>exact⟨k+1,by omega,by go_num,m+1,by omega,HG.out⟩
     case measure=>simp[intOf];omega
  ·have e:k=zs.length:=by omega
   have HO:Hid (cO w (zs.filter (fun x=>x !=b)) (.returned u5) wr):=by
    have h1:fC w u5 m (zs.filter (fun x=>x !=b)) wr:=by
     have:=(⟨hown,hbel⟩:fC w u5 m ((zs.take k).filter (fun x=>x !=b)) wr)
     rwa[e,List.take_length] at this
    have hm2:m=(zs.filter (fun x=>x !=b)).length:=by
     have:=h1.1.1
     simp at this
     omega
    exact cO.mk hm2 h1
   clear e hown hbel
   go_wp2
   go_ret
   exact HO.out
theorem kI(l:List Nat)(b:Nat):(ints l).filter (fun x=>x !=(b:Int))=ints (l.filter (fun x=>x !=b)):=by
 induction l with
 |nil=>rfl
 |cons x t ih=>
  show(((x:Int)::ints t).filter _)=ints (List.filter _ (x::t))
  by_cases h:x=b
  ·subst h;simp[ih]
  ·have h1:((x:Int)!=(b:Int))=true:=by simp;omega
   have h2:(x !=b)=true:=by simp[h]
   rw[List.filter_cons_of_pos (p:=fun x=>x !=(b:Int)) h1,List.filter_cons_of_pos (p:=fun x=>x !=b) h2,ih];rfl
theorem qU(a:Option Addr)(cap:Nat)(l l':List Nat)(b:Int)(w:World)(hr:Row w .i64 a (ints l))(hl:l.length≤9000)(hf:(ints l).filter (fun x=>x !=b)=ints l'):
  Calls Tryz.prog 217 #[.slice a l.length cap,.int .i64 b] w (dJ l' w):=by
 have:=xJ a cap (ints l) b w hr (by rw[ak];omega)
 rw[ak] at this
 exact this.mono (fun e w' h=>h.JK hf)
end Go.Proofs.YtofhdfjkhfkhiaaGreat.Pk
